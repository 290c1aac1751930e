/- Package cpu: do, a class of operations each, over registers and a memory. -/
import Derived.Test.YtmlhoagcppofgaaGreatDoorGP1
import Derived.Test.YtmlhoagcppofgaaGreatDoorGP2
import Derived.Test.YtmlhoagcppofgaaGreatDoorGP3
import Derived.Test.YtmlhoagcppofgaaGreatDoorGC
namespace Go.Proofs.YtmlhoagcppofgaaGreatDoor
open Go Go.RowKit Pl
set_option linter.unusedVariables false

/-- an immediate as a word -/
def nC (im : Int) : Nat := (im % 4294967296).toNat
theorem nC_wrap (im : Int) : IntKind.u32.wrap im = (nC im : Int) := by rw [IntKind.wrap_u32]; unfold nC; omega
theorem nC_lt (im : Int) : nC im < 4294967296 := by unfold nC; omega
/-- what do comes to -/
def DoDone (C M F R f rr : Nat) (Fb Rb : List Nat) (W : World) (p w : Nat) (k : Int) (a : Nat) (s t : Int) (pc : Nat) (r : Nat → Nat) (e : Ending) (w' : World) : Prop :=
  e = .returned (.tuple #[.agg #[.int .u32 (p : Nat), .int .u32 (w : Nat), .int .i64 k, .int .u32 (a : Nat), .int .i64 s], .int .i64 t]) ∧ MachIs C M pc r w' ∧ MemIs M F R f rr Fb Rb w' ∧ Out (fun j => j = C ∨ j = R) W w'
theorem of_step {C M F R f rr : Nat} {Fb Rb : List Nat} {W : World} (hm : MemIs M F R f rr Fb Rb W) (hC : C ≠ M ∧ C ≠ F ∧ C ≠ R) {p w : Nat} {k : Int} {a : Nat} {s t : Int} {pc : Nat} {r : Nat → Nat} {e : Ending} {w' : World}
    (g : DoPost (MachIs C M pc r) (· = C) W (.agg #[.int .u32 (p : Nat), .int .u32 (w : Nat), .int .i64 k, .int .u32 (a : Nat), .int .i64 s]) t e w') : DoDone C M F R f rr Fb Rb W p w k a s t pc r e w' :=
  ⟨g.1, g.2.1, hm.out g.2.2 (fun x => hC.1 x.symm) (fun x => hC.2.1 x.symm) (fun x => hC.2.2 x.symm), g.2.2.mono fun _ x => Or.inl x⟩
theorem mach_q {C M pc N : Nat} {r : Nat → Nat} (hC : C < N) : ∀ B V V', N ≤ B → MachIs C M pc r V → Out (· = B) V V' → MachIs C M pc r V' := fun B V V' hB hq ho => hq.out ho (by omega)
theorem any_alu {C M F R f rr pc : Nat} {r : Nat → Nat} {Fb Rb : List Nat} {W : World} (h : MachIs C M pc r W) (hm : MemIs M F R f rr Fb Rb W) (hC : C ≠ M ∧ C ≠ F ∧ C ≠ R) (o : Int) (d u v : Nat) (im : Int) (hd : d < 32) (hu : u < 32) (hv : v < 32) (p w : Nat) (ho : 1 ≤ o ∧ o ≤ 18) : Calls Tryz.prog 54 #[.pointer (some ⟨C, 0, none⟩), .agg #[.int .i64 o, .int .i64 (d : Nat), .int .i64 (u : Nat), .int .i64 (v : Nat), .int .i32 im], .agg #[.int .u32 (p : Nat), .int .u32 (w : Nat), .int .i64 0, .int .u32 ((0 : Nat) : Int), .int .i64 0]] W (DoDone C M F R f rr Fb Rb W p w 0 0 0 0 ((pc + 4) % 4294967296) (setR r d (aluS o (r u : Nat) (r v : Nat)).toNat)) := by
  have b := aluS_bd (op := o) (a := (r u : Nat)) (b := (r v : Nat)) (by omega) (by have := h.rb u; omega) (by omega) (by have := h.rb v; omega)
  exact (do_alu h o d u v im (nC im) (nC_wrap im) (nC_lt im) hu hv ho p w 0 0 0 (aluS o (r u : Nat) (r v : Nat)).toNat (by omega) p w 0 0 0 0 (S := (· = C)) (fun j e => by subst e; exact h.lt) (mach_q h.lt) (fun W' hbl => (cset_any (h.below hbl) d (aluS o (r u : Nat) (r v : Nat)).toNat hd (by omega) p w 0 0 0).mono fun _ _ g => g)).mono fun _ _ g => of_step hm hC g
theorem any_num {C M F R f rr pc : Nat} {r : Nat → Nat} {Fb Rb : List Nat} {W : World} (h : MachIs C M pc r W) (hm : MemIs M F R f rr Fb Rb W) (hC : C ≠ M ∧ C ≠ F ∧ C ≠ R) (o : Int) (d u v : Nat) (im : Int) (hd : d < 32) (hu : u < 32) (hv : v < 32) (p w : Nat) (ho : 19 ≤ o ∧ o ≤ 27) : Calls Tryz.prog 54 #[.pointer (some ⟨C, 0, none⟩), .agg #[.int .i64 o, .int .i64 (d : Nat), .int .i64 (u : Nat), .int .i64 (v : Nat), .int .i32 im], .agg #[.int .u32 (p : Nat), .int .u32 (w : Nat), .int .i64 0, .int .u32 ((0 : Nat) : Int), .int .i64 0]] W (DoDone C M F R f rr Fb Rb W p w 0 0 0 0 ((pc + 4) % 4294967296) (setR r d (aluS (ofC o) (r u : Nat) (nC im : Nat)).toNat)) := by
  have b := aluS_bd (op := ofC o) (a := (r u : Nat)) (b := (nC im : Nat)) (by omega) (by have := h.rb u; omega) (by omega) (by have := nC_lt im; omega)
  exact (do_num h o d u v im (nC im) (nC_wrap im) (nC_lt im) hu hv ho p w 0 0 0 (aluS (ofC o) (r u : Nat) (nC im : Nat)).toNat (by omega) p w 0 0 0 0 (S := (· = C)) (fun j e => by subst e; exact h.lt) (mach_q h.lt) (fun W' hbl => (cset_any (h.below hbl) d (aluS (ofC o) (r u : Nat) (nC im : Nat)).toNat hd (by omega) p w 0 0 0).mono fun _ _ g => g)).mono fun _ _ g => of_step hm hC g
theorem any_lui {C M F R f rr pc : Nat} {r : Nat → Nat} {Fb Rb : List Nat} {W : World} (h : MachIs C M pc r W) (hm : MemIs M F R f rr Fb Rb W) (hC : C ≠ M ∧ C ≠ F ∧ C ≠ R) (o : Int) (d u v : Nat) (im : Int) (hd : d < 32) (hu : u < 32) (hv : v < 32) (p w : Nat) (ho : o = 42) : Calls Tryz.prog 54 #[.pointer (some ⟨C, 0, none⟩), .agg #[.int .i64 o, .int .i64 (d : Nat), .int .i64 (u : Nat), .int .i64 (v : Nat), .int .i32 im], .agg #[.int .u32 (p : Nat), .int .u32 (w : Nat), .int .i64 0, .int .u32 ((0 : Nat) : Int), .int .i64 0]] W (DoDone C M F R f rr Fb Rb W p w 0 0 0 0 ((pc + 4) % 4294967296) (setR r d (nC im))) := by
  exact (do_lui h o d u v im (nC im) (nC_wrap im) (nC_lt im) hu hv ho p w 0 0 0  p w 0 0 0 0 (S := (· = C)) (fun j e => by subst e; exact h.lt) (mach_q h.lt) (fun W' hbl => (cset_any (h.below hbl) d (nC im) hd (nC_lt im) p w 0 0 0).mono fun _ _ g => g)).mono fun _ _ g => of_step hm hC g
theorem any_auipc {C M F R f rr pc : Nat} {r : Nat → Nat} {Fb Rb : List Nat} {W : World} (h : MachIs C M pc r W) (hm : MemIs M F R f rr Fb Rb W) (hC : C ≠ M ∧ C ≠ F ∧ C ≠ R) (o : Int) (d u v : Nat) (im : Int) (hd : d < 32) (hu : u < 32) (hv : v < 32) (p w : Nat) (ho : o = 43) : Calls Tryz.prog 54 #[.pointer (some ⟨C, 0, none⟩), .agg #[.int .i64 o, .int .i64 (d : Nat), .int .i64 (u : Nat), .int .i64 (v : Nat), .int .i32 im], .agg #[.int .u32 (p : Nat), .int .u32 (w : Nat), .int .i64 0, .int .u32 ((0 : Nat) : Int), .int .i64 0]] W (DoDone C M F R f rr Fb Rb W p w 0 0 0 0 ((pc + 4) % 4294967296) (setR r d ((pc + nC im) % 4294967296))) := by
  exact (do_auipc h o d u v im (nC im) (nC_wrap im) (nC_lt im) hu hv ho p w 0 0 0 ((pc + nC im) % 4294967296) (by rw [IntKind.wrap_u32]; omega) p w 0 0 0 0 (S := (· = C)) (fun j e => by subst e; exact h.lt) (mach_q h.lt) (fun W' hbl => (cset_any (h.below hbl) d ((pc + nC im) % 4294967296) hd (by omega) p w 0 0 0).mono fun _ _ g => g)).mono fun _ _ g => of_step hm hC g
theorem any_jal {C M F R f rr pc : Nat} {r : Nat → Nat} {Fb Rb : List Nat} {W : World} (h : MachIs C M pc r W) (hm : MemIs M F R f rr Fb Rb W) (hC : C ≠ M ∧ C ≠ F ∧ C ≠ R) (o : Int) (d u v : Nat) (im : Int) (hd : d < 32) (hu : u < 32) (hv : v < 32) (p w : Nat) (ho : o = 44) : Calls Tryz.prog 54 #[.pointer (some ⟨C, 0, none⟩), .agg #[.int .i64 o, .int .i64 (d : Nat), .int .i64 (u : Nat), .int .i64 (v : Nat), .int .i32 im], .agg #[.int .u32 (p : Nat), .int .u32 (w : Nat), .int .i64 0, .int .u32 ((0 : Nat) : Int), .int .i64 0]] W (DoDone C M F R f rr Fb Rb W p w 0 0 0 (if ((pc + nC im) % 4294967296) % 4 = 0 then 0 else 1) (if ((pc + nC im) % 4294967296) % 4 = 0 then ((pc + nC im) % 4294967296) else pc) (if ((pc + nC im) % 4294967296) % 4 = 0 then setR r d ((pc + 4) % 4294967296) else r)) := by
  exact (do_jal h o d u v im (nC im) (nC_wrap im) (nC_lt im) hu hv ho p w 0 0 0 ((pc + nC im) % 4294967296) (by rw [IntKind.wrap_u32]; omega) p w 0 0 0 (if ((pc + nC im) % 4294967296) % 4 = 0 then 0 else 1) (S := (· = C)) (fun j e => by subst e; exact h.lt) (mach_q h.lt) (fun W' hbl => (link_any (h.below hbl) d ((pc + nC im) % 4294967296) hd (by omega) p w 0 0 0).mono fun _ _ g => g)).mono fun _ _ g => of_step hm hC g
theorem any_fence {C M F R f rr pc : Nat} {r : Nat → Nat} {Fb Rb : List Nat} {W : World} (h : MachIs C M pc r W) (hm : MemIs M F R f rr Fb Rb W) (hC : C ≠ M ∧ C ≠ F ∧ C ≠ R) (o : Int) (d u v : Nat) (im : Int) (hd : d < 32) (hu : u < 32) (hv : v < 32) (p w : Nat)  (ho : o = 46) : Calls Tryz.prog 54 #[.pointer (some ⟨C, 0, none⟩), .agg #[.int .i64 o, .int .i64 (d : Nat), .int .i64 (u : Nat), .int .i64 (v : Nat), .int .i32 im], .agg #[.int .u32 (p : Nat), .int .u32 (w : Nat), .int .i64 0, .int .u32 ((0 : Nat) : Int), .int .i64 0]] W (DoDone C M F R f rr Fb Rb W p w 0 0 0 (if ((pc + 4) % 4294967296) % 4 = 0 then 0 else 1) (if ((pc + 4) % 4294967296) % 4 = 0 then ((pc + 4) % 4294967296) else pc) r) := by
  exact (do_fence h o d u v im (nC im) (nC_wrap im) (nC_lt im) hu hv ho p w 0 0 0 ((pc + 4) % 4294967296) (by rw [IntKind.wrap_u32]; omega) p w 0 0 0 (if ((pc + 4) % 4294967296) % 4 = 0 then 0 else 1) (S := (· = C)) (fun j e => by subst e; exact h.lt) (mach_q h.lt) (fun W' hbl => (jump_any (h.below hbl) ((pc + 4) % 4294967296) (by omega) p w 0 0 0).mono fun _ _ g => g)).mono fun _ _ g => of_step hm hC g
theorem any_bno {C M F R f rr pc : Nat} {r : Nat → Nat} {Fb Rb : List Nat} {W : World} (h : MachIs C M pc r W) (hm : MemIs M F R f rr Fb Rb W) (hC : C ≠ M ∧ C ≠ F ∧ C ≠ R) (o : Int) (d u v : Nat) (im : Int) (hd : d < 32) (hu : u < 32) (hv : v < 32) (p w : Nat) (ht : takenS o (r u) (r v) = false) (ho : 36 ≤ o ∧ o ≤ 41) : Calls Tryz.prog 54 #[.pointer (some ⟨C, 0, none⟩), .agg #[.int .i64 o, .int .i64 (d : Nat), .int .i64 (u : Nat), .int .i64 (v : Nat), .int .i32 im], .agg #[.int .u32 (p : Nat), .int .u32 (w : Nat), .int .i64 0, .int .u32 ((0 : Nat) : Int), .int .i64 0]] W (DoDone C M F R f rr Fb Rb W p w 0 0 0 (if ((pc + 4) % 4294967296) % 4 = 0 then 0 else 1) (if ((pc + 4) % 4294967296) % 4 = 0 then ((pc + 4) % 4294967296) else pc) r) := by
  exact (do_bno h o d u v im (nC im) (nC_wrap im) (nC_lt im) hu hv ho p w 0 0 0 ((pc + 4) % 4294967296) (by rw [IntKind.wrap_u32]; omega) ht p w 0 0 0 (if ((pc + 4) % 4294967296) % 4 = 0 then 0 else 1) (S := (· = C)) (fun j e => by subst e; exact h.lt) (mach_q h.lt) (fun W' hbl => (jump_any (h.below hbl) ((pc + 4) % 4294967296) (by omega) p w 0 0 0).mono fun _ _ g => g)).mono fun _ _ g => of_step hm hC g
theorem any_byes {C M F R f rr pc : Nat} {r : Nat → Nat} {Fb Rb : List Nat} {W : World} (h : MachIs C M pc r W) (hm : MemIs M F R f rr Fb Rb W) (hC : C ≠ M ∧ C ≠ F ∧ C ≠ R) (o : Int) (d u v : Nat) (im : Int) (hd : d < 32) (hu : u < 32) (hv : v < 32) (p w : Nat) (ht : takenS o (r u) (r v) = true) (ho : 36 ≤ o ∧ o ≤ 41) : Calls Tryz.prog 54 #[.pointer (some ⟨C, 0, none⟩), .agg #[.int .i64 o, .int .i64 (d : Nat), .int .i64 (u : Nat), .int .i64 (v : Nat), .int .i32 im], .agg #[.int .u32 (p : Nat), .int .u32 (w : Nat), .int .i64 0, .int .u32 ((0 : Nat) : Int), .int .i64 0]] W (DoDone C M F R f rr Fb Rb W p w 0 0 0 (if ((pc + nC im) % 4294967296) % 4 = 0 then 0 else 1) (if ((pc + nC im) % 4294967296) % 4 = 0 then ((pc + nC im) % 4294967296) else pc) r) := by
  exact (do_byes h o d u v im (nC im) (nC_wrap im) (nC_lt im) hu hv ho p w 0 0 0 ((pc + nC im) % 4294967296) (by rw [IntKind.wrap_u32]; omega) ht p w 0 0 0 (if ((pc + nC im) % 4294967296) % 4 = 0 then 0 else 1) (S := (· = C)) (fun j e => by subst e; exact h.lt) (mach_q h.lt) (fun W' hbl => (jump_any (h.below hbl) ((pc + nC im) % 4294967296) (by omega) p w 0 0 0).mono fun _ _ g => g)).mono fun _ _ g => of_step hm hC g
theorem any_ecall {C M F R f rr pc : Nat} {r : Nat → Nat} {Fb Rb : List Nat} {W : World} (h : MachIs C M pc r W) (hm : MemIs M F R f rr Fb Rb W) (hC : C ≠ M ∧ C ≠ F ∧ C ≠ R) (o : Int) (d u v : Nat) (im : Int) (hd : d < 32) (hu : u < 32) (hv : v < 32) (p w : Nat) (ho : o = 47) : Calls Tryz.prog 54 #[.pointer (some ⟨C, 0, none⟩), .agg #[.int .i64 o, .int .i64 (d : Nat), .int .i64 (u : Nat), .int .i64 (v : Nat), .int .i32 im], .agg #[.int .u32 (p : Nat), .int .u32 (w : Nat), .int .i64 0, .int .u32 ((0 : Nat) : Int), .int .i64 0]] W (DoDone C M F R f rr Fb Rb W p w 0 0 0 6 pc r) :=
  (do_ecall h o d u v im (nC im) (nC_wrap im) (nC_lt im) hu hv ho p w 0 0 0).mono fun _ _ g => of_step hm hC g
theorem any_ebreak {C M F R f rr pc : Nat} {r : Nat → Nat} {Fb Rb : List Nat} {W : World} (h : MachIs C M pc r W) (hm : MemIs M F R f rr Fb Rb W) (hC : C ≠ M ∧ C ≠ F ∧ C ≠ R) (o : Int) (d u v : Nat) (im : Int) (hd : d < 32) (hu : u < 32) (hv : v < 32) (p w : Nat) (ho : o = 48) : Calls Tryz.prog 54 #[.pointer (some ⟨C, 0, none⟩), .agg #[.int .i64 o, .int .i64 (d : Nat), .int .i64 (u : Nat), .int .i64 (v : Nat), .int .i32 im], .agg #[.int .u32 (p : Nat), .int .u32 (w : Nat), .int .i64 0, .int .u32 ((0 : Nat) : Int), .int .i64 0]] W (DoDone C M F R f rr Fb Rb W p w 0 0 0 7 pc r) :=
  (do_ebreak h o d u v im (nC im) (nC_wrap im) (nC_lt im) hu hv ho p w 0 0 0).mono fun _ _ g => of_step hm hC g
end Go.Proofs.YtmlhoagcppofgaaGreatDoor

namespace Go.Proofs.YtmlhoagcppofgaaGreatDoor
open Go Go.RowKit Pl
set_option linter.unusedVariables false

/-- where a load or a store goes -/
def atC (r : Nat → Nat) (u : Nat) (im : Int) : Nat := (r u + nC im) % 4294967296
theorem atC_lt (r : Nat → Nat) (u : Nat) (im : Int) : atC r u im < 4294967296 := by unfold atC; omega
theorem atC_eq (r : Nat → Nat) (u : Nat) (im : Int) : ((r u : Int) + (nC im : Int)) % 4294967296 = (atC r u im : Int) := by unfold atC; omega
theorem sizeC_is (o : Int) : sizeC o = 1 ∨ sizeC o = 2 ∨ sizeC o = 4 := by unfold sizeC; split; simp; split <;> simp
/-- what a load makes of what it found -/
def extC (o : Int) (x : Nat) : Nat := if o = 28 then (sextS x 8).toNat else if o = 29 then (sextS x 16).toNat else x
theorem ld_any {M F R f rr : Nat} {Fb Rb : List Nat} {W : World} (hm : MemIs M F R f rr Fb Rb W) (hb : Banks f Fb.length rr Rb.length) (at_ k : Nat) (ha : at_ < 4294967296) (hk : k = 1 ∨ k = 2 ∨ k = 4) {x : Nat} {t : Int} (hx : loadS f Fb.length rr Rb.length Fb Rb at_ k = (x, t)) :
    ∀ W1, Below W.heap.size W W1 → ∀ W', Below W1.heap.size W1 W' → Calls Tryz.prog 94 #[.pointer (some ⟨M, 0, none⟩), .int .u32 (at_ : Nat), .int .i64 (k : Nat)] W' (LoadPost W' x t) := fun W1 b1 W' b2 => by
  have m' := (hm.out (.of_below (fun _ => False) b1) id id id).out (.of_below (fun _ => False) b2) id id id
  have := load_any m' hb at_ k ha hk
  rw [hx] at this
  exact this
theorem st_any {M F R f rr : Nat} {Fb Rb : List Nat} {W : World} (hm : MemIs M F R f rr Fb Rb W) (hb : Banks f Fb.length rr Rb.length) (at_ k x : Nat) (ha : at_ < 4294967296) (hk : k = 1 ∨ k = 2 ∨ k = 4) (hx : x < 4294967296) :
    ∀ W1, Below W.heap.size W W1 → ∀ W', Below W1.heap.size W1 W' → Calls Tryz.prog 95 #[.pointer (some ⟨M, 0, none⟩), .int .u32 (at_ : Nat), .int .i64 (k : Nat), .int .u32 (x : Nat)] W' fun e w' => e = .returned (.int .i64 (storeS rr Rb.length at_ k)) ∧ MemIs M F R f rr Fb (ramS rr Rb.length Rb at_ k x) w' ∧ Out (· = R) W' w' := fun W1 b1 W' b2 =>
  store_any ((hm.out (.of_below (fun _ => False) b1) id id id).out (.of_below (fun _ => False) b2) id id id) hb at_ k x ha hk hx
theorem MemIs.lts {M F R f rr : Nat} {Fb Rb : List Nat} {W : World} (hm : MemIs M F R f rr Fb Rb W) : M < W.heap.size ∧ F < W.heap.size ∧ R < W.heap.size :=
  ⟨World.block_lt_of_cell? W _ hm.c0, (Array.getElem?_eq_some_iff.1 hm.hF).1, (Array.getElem?_eq_some_iff.1 hm.hR).1⟩
theorem any_load_trap {C M F R f rr pc : Nat} {r : Nat → Nat} {Fb Rb : List Nat} {W : World} (h : MachIs C M pc r W) (hm : MemIs M F R f rr Fb Rb W) (hb : Banks f Fb.length rr Rb.length) (hC : C ≠ M ∧ C ≠ F ∧ C ≠ R) (o : Int) (d u v : Nat) (im : Int) (hd : d < 32) (hu : u < 32) (hv : v < 32) (p w : Nat) (ho : 28 ≤ o ∧ o ≤ 32) (x : Nat) (t : Int) (hx : loadS f Fb.length rr Rb.length Fb Rb (atC r u im) (sizeC o) = (x, t)) (ht : t ≠ 0) : Calls Tryz.prog 54 #[.pointer (some ⟨C, 0, none⟩), .agg #[.int .i64 o, .int .i64 (d : Nat), .int .i64 (u : Nat), .int .i64 (v : Nat), .int .i32 im], .agg #[.int .u32 (p : Nat), .int .u32 (w : Nat), .int .i64 0, .int .u32 ((0 : Nat) : Int), .int .i64 0]] W (DoDone C M F R f rr Fb Rb W p w 0 0 0 t pc r) :=
  (do_load h o d u v im (nC im) (nC_wrap im) (nC_lt im) hu hv ho p w 0 0 0 (atC r u im) (atC_eq r u im) p w 0 0 0 t (S := (· = C)) (fun j e => by subst e; exact h.lt) (mach_q h.lt) (fun W1 hbl => (mload_trap (h.below hbl) o d u v im ho hd (atC r u im) p w 0 0 0 x t ht (ld_any hm hb _ _ (atC_lt r u im) (sizeC_is o) hx W1 hbl)).mono fun _ _ g => g)).mono fun _ _ g => of_step hm hC g
set_option maxRecDepth 100000 in
theorem any_load_ok {C M F R f rr pc : Nat} {r : Nat → Nat} {Fb Rb : List Nat} {W : World} (h : MachIs C M pc r W) (hm : MemIs M F R f rr Fb Rb W) (hb : Banks f Fb.length rr Rb.length) (hC : C ≠ M ∧ C ≠ F ∧ C ≠ R) (o : Int) (d u v : Nat) (im : Int) (hd : d < 32) (hu : u < 32) (hv : v < 32) (p w : Nat) (ho : 28 ≤ o ∧ o ≤ 32) (x : Nat) (hxb : x < 4294967296) (hx : loadS f Fb.length rr Rb.length Fb Rb (atC r u im) (sizeC o) = (x, 0)) : Calls Tryz.prog 54 #[.pointer (some ⟨C, 0, none⟩), .agg #[.int .i64 o, .int .i64 (d : Nat), .int .i64 (u : Nat), .int .i64 (v : Nat), .int .i32 im], .agg #[.int .u32 (p : Nat), .int .u32 (w : Nat), .int .i64 0, .int .u32 ((0 : Nat) : Int), .int .i64 0]] W (DoDone C M F R f rr Fb Rb W p w 1 (atC r u im) (sizeC o) 0 ((pc + 4) % 4294967296) (setR r d (extC o x))) := by
  have key : ∀ W1, Below W.heap.size W W1 → Calls Tryz.prog 79 #[.pointer (some ⟨C, 0, none⟩), .agg #[.int .i64 o, .int .i64 (d : Nat), .int .i64 (u : Nat), .int .i64 (v : Nat), .int .i32 im], .int .u32 ((atC r u im) : Nat), .agg #[.int .u32 (p : Nat), .int .u32 (w : Nat), .int .i64 0, .int .u32 ((0 : Nat) : Int), .int .i64 0]] W1 (StepPost C M W1 (.agg #[.int .u32 (p : Nat), .int .u32 (w : Nat), .int .i64 1, .int .u32 ((atC r u im) : Nat), .int .i64 (sizeC o : Nat)]) 0 ((pc + 4) % 4294967296) (setR r d (extC o x))) := by
    intro W1 hbl
    have LD := ld_any hm hb _ _ (atC_lt r u im) (sizeC_is o) hx W1 hbl
    by_cases e1 : o = 28
    · subst e1
      have b := sext_bd x 8 (by omega) (by omega)
      have sz : sizeC 28 = 1 := by simp [sizeC]
      have ex : extC 28 x = (sextS x 8).toNat := by simp [extC]
      rw [sz] at LD
      rw [sz, ex]
      exact mload_lb (h.below hbl) d u v im hd _ p w 0 0 0 x hxb (sextS x 8).toNat (by omega) (by omega) LD
    by_cases e2 : o = 29
    · subst e2
      have b := sext_bd x 16 (by omega) (by omega)
      have sz : sizeC 29 = 2 := by simp [sizeC]
      have ex : extC 29 x = (sextS x 16).toNat := by simp [extC]
      rw [sz] at LD
      rw [sz, ex]
      exact mload_lh (h.below hbl) d u v im hd _ p w 0 0 0 x hxb (sextS x 16).toNat (by omega) (by omega) LD
    have ex : extC o x = x := by unfold extC; rw [if_neg e1, if_neg e2]
    rw [ex]
    exact mload_plain (h.below hbl) o d u v im ho hd _ p w 0 0 0 x hxb e1 e2 LD
  exact (do_load h o d u v im (nC im) (nC_wrap im) (nC_lt im) hu hv ho p w 0 0 0 (atC r u im) (atC_eq r u im) p w 1 (atC r u im) (sizeC o) 0 (S := (· = C)) (fun j e => by subst e; exact h.lt) (mach_q h.lt) (fun W1 hbl => (key W1 hbl).mono fun _ _ g => g)).mono fun _ _ g => of_step hm hC g
theorem any_store_trap {C M F R f rr pc : Nat} {r : Nat → Nat} {Fb Rb : List Nat} {W : World} (h : MachIs C M pc r W) (hm : MemIs M F R f rr Fb Rb W) (hb : Banks f Fb.length rr Rb.length) (hC : C ≠ M ∧ C ≠ F ∧ C ≠ R) (o : Int) (d u v : Nat) (im : Int) (hd : d < 32) (hu : u < 32) (hv : v < 32) (p w : Nat) (ho : 33 ≤ o ∧ o ≤ 35) (ht : (storeS rr Rb.length (atC r u im) (sizeC o)) ≠ 0) : Calls Tryz.prog 54 #[.pointer (some ⟨C, 0, none⟩), .agg #[.int .i64 o, .int .i64 (d : Nat), .int .i64 (u : Nat), .int .i64 (v : Nat), .int .i32 im], .agg #[.int .u32 (p : Nat), .int .u32 (w : Nat), .int .i64 0, .int .u32 ((0 : Nat) : Int), .int .i64 0]] W (DoDone C M F R f rr Fb (ramS rr Rb.length Rb (atC r u im) (sizeC o) (r v)) W p w 0 0 0 (storeS rr Rb.length (atC r u im) (sizeC o)) pc r) :=
  (do_store h o d u v im (nC im) (nC_wrap im) (nC_lt im) hu hv ho p w 0 0 0 (atC r u im) (atC_eq r u im) p w 0 0 0 (storeS rr Rb.length (atC r u im) (sizeC o)) (Q := fun V => MachIs C M pc r V ∧ MemIs M F R f rr Fb (ramS rr Rb.length Rb (atC r u im) (sizeC o) (r v)) V) (S := fun j => j = C ∨ j = R) (fun j e => by rcases e with e | e; (subst e; exact h.lt); (subst e; exact hm.lts.2.2)) (fun B V V' hB hq ho => by have hl := hm.lts; have hc := h.lt; exact ⟨hq.1.out ho (by omega), hq.2.out ho (by omega) (by omega) (by omega)⟩) (fun W1 hbl => (mstore_trap (h.below hbl) o d u v im ho (atC r u im) (r v) p w 0 0 0 (storeS rr Rb.length (atC r u im) (sizeC o)) ht hC.1 hC.2.1 hC.2.2 (st_any hm hb _ _ _ (atC_lt r u im) (sizeC_is o) (h.rb v) W1 hbl) (Nat.lt_of_lt_of_le hm.lts.2.2 hbl.size) (Nat.lt_of_lt_of_le hm.lts.1 hbl.size) (Nat.lt_of_lt_of_le hm.lts.2.1 hbl.size)).mono fun _ _ g => ⟨g.1, ⟨g.2.1, g.2.2.1⟩, g.2.2.2⟩)).mono fun _ _ g => ⟨g.1, g.2.1.1, g.2.1.2, g.2.2⟩
theorem any_store_ok {C M F R f rr pc : Nat} {r : Nat → Nat} {Fb Rb : List Nat} {W : World} (h : MachIs C M pc r W) (hm : MemIs M F R f rr Fb Rb W) (hb : Banks f Fb.length rr Rb.length) (hC : C ≠ M ∧ C ≠ F ∧ C ≠ R) (o : Int) (d u v : Nat) (im : Int) (hd : d < 32) (hu : u < 32) (hv : v < 32) (p w : Nat) (ho : 33 ≤ o ∧ o ≤ 35) (ht : (storeS rr Rb.length (atC r u im) (sizeC o)) = 0) : Calls Tryz.prog 54 #[.pointer (some ⟨C, 0, none⟩), .agg #[.int .i64 o, .int .i64 (d : Nat), .int .i64 (u : Nat), .int .i64 (v : Nat), .int .i32 im], .agg #[.int .u32 (p : Nat), .int .u32 (w : Nat), .int .i64 0, .int .u32 ((0 : Nat) : Int), .int .i64 0]] W (DoDone C M F R f rr Fb (ramS rr Rb.length Rb (atC r u im) (sizeC o) (r v)) W p w 2 (atC r u im) (sizeC o) 0 ((pc + 4) % 4294967296) r) :=
  (do_store h o d u v im (nC im) (nC_wrap im) (nC_lt im) hu hv ho p w 0 0 0 (atC r u im) (atC_eq r u im) p w 2 (atC r u im) (sizeC o) 0 (Q := fun V => MachIs C M ((pc + 4) % 4294967296) r V ∧ MemIs M F R f rr Fb (ramS rr Rb.length Rb (atC r u im) (sizeC o) (r v)) V) (S := fun j => j = C ∨ j = R) (fun j e => by rcases e with e | e; (subst e; exact h.lt); (subst e; exact hm.lts.2.2)) (fun B V V' hB hq ho => by have hl := hm.lts; have hc := h.lt; exact ⟨hq.1.out ho (by omega), hq.2.out ho (by omega) (by omega) (by omega)⟩) (fun W1 hbl => (mstore_ok (h.below hbl) o d u v im ho (atC r u im) (r v) p w 0 0 0 hC.1 hC.2.1 hC.2.2 (by have := st_any hm hb _ _ _ (atC_lt r u im) (sizeC_is o) (h.rb v) W1 hbl; rw [ht] at this; exact this) (Nat.lt_of_lt_of_le hm.lts.2.2 hbl.size) (Nat.lt_of_lt_of_le hm.lts.1 hbl.size) (Nat.lt_of_lt_of_le hm.lts.2.1 hbl.size)).mono fun _ _ g => ⟨g.1, ⟨g.2.1, g.2.2.1⟩, g.2.2.2⟩)).mono fun _ _ g => ⟨g.1, g.2.1.1, g.2.1.2, g.2.2⟩
end Go.Proofs.YtmlhoagcppofgaaGreatDoor

namespace Go.Proofs.YtmlhoagcppofgaaGreatDoor
open Go Go.RowKit Pl
set_option linter.unusedVariables false

theorem even_of (x : Nat) (h : x < 4294967296) : x &&& 4294967294 = x / 2 * 2 := by
  have h1 : (x &&& 4294967294) / 2 = x / 2 &&& 2147483647 := Nat.and_div_two
  have h2 : (x &&& 4294967294) % 2 = 0 := by
    have := Nat.and_mod_two_eq_one (a := x) (b := 4294967294)
    omega
  have h3 : x / 2 &&& 2147483647 = x / 2 := by
    have := Nat.and_two_pow_sub_one_eq_mod (x / 2) 31
    rw [show (2 : Nat) ^ 31 - 1 = 2147483647 by decide] at this
    omega
  omega
theorem jalr_to (r : Nat → Nat) (u : Nat) (im : Int) : bits BinOp.andNot IntKind.u32 (((r u : Int) + (nC im : Int)) % 4294967296) 1 = (((atC r u im / 2 * 2) : Nat) : Int) := by
  rw [atC_eq, show (1 : Int) = ((1 : Nat) : Int) from rfl, u32_andNot_nat _ _ (atC_lt r u im) (by decide), even_of _ (atC_lt r u im)]
theorem any_jalr {C M F R f rr pc : Nat} {r : Nat → Nat} {Fb Rb : List Nat} {W : World} (h : MachIs C M pc r W) (hm : MemIs M F R f rr Fb Rb W) (hC : C ≠ M ∧ C ≠ F ∧ C ≠ R) (o : Int) (d u v : Nat) (im : Int) (hd : d < 32) (hu : u < 32) (hv : v < 32) (p w : Nat) (ho : o = 45) : Calls Tryz.prog 54 #[.pointer (some ⟨C, 0, none⟩), .agg #[.int .i64 o, .int .i64 (d : Nat), .int .i64 (u : Nat), .int .i64 (v : Nat), .int .i32 im], .agg #[.int .u32 (p : Nat), .int .u32 (w : Nat), .int .i64 0, .int .u32 ((0 : Nat) : Int), .int .i64 0]] W (DoDone C M F R f rr Fb Rb W p w 0 0 0 (if (atC r u im / 2 * 2) % 4 = 0 then 0 else 1) (if (atC r u im / 2 * 2) % 4 = 0 then (atC r u im / 2 * 2) else pc) (if (atC r u im / 2 * 2) % 4 = 0 then setR r d ((pc + 4) % 4294967296) else r)) := by
  exact (do_jalr h o d u v im (nC im) (nC_wrap im) (nC_lt im) hu hv ho p w 0 0 0 (atC r u im / 2 * 2) (jalr_to r u im) p w 0 0 0 (if (atC r u im / 2 * 2) % 4 = 0 then 0 else 1) (S := (· = C)) (fun j e => by subst e; exact h.lt) (mach_q h.lt) (fun W' hbl => (link_any (h.below hbl) d (atC r u im / 2 * 2) hd (by have := atC_lt r u im; omega) p w 0 0 0).mono fun _ _ g => g)).mono fun _ _ g => of_step hm hC g
end Go.Proofs.YtmlhoagcppofgaaGreatDoor

namespace Go.Proofs.YtmlhoagcppofgaaGreatDoor
open Go Go.RowKit Pl
set_option linter.unusedVariables false
theorem pick3 {A B P : Prop} (h : A ∧ B ∧ P) : P := h.2.2
set_option maxRecDepth 100000 in
set_option maxHeartbeats 1000000 in
theorem step_trap {C M pc : Nat} {r : Nat → Nat} {W : World} (h : MachIs C M pc r W) (x : Nat) (t : Int) (ht : t ≠ 0)
    (hl : ∀ W', Below W.heap.size W W' → Calls Tryz.prog 53 #[.pointer (some ⟨M, 0, none⟩), .int .u32 (pc : Nat)] W' (LoadPost W' x t)) :
    Calls Tryz.prog 35 #[.pointer (some ⟨C, 0, none⟩)] W (DoPost (MachIs C M pc r) (· = C) W (.agg #[.int .u32 (pc : Nat), .int .u32 ((0 : Nat) : Int), .int .i64 0, .int .u32 ((0 : Nat) : Int), .int .i64 0]) t) := by
  have LD := Lib.hid hl
  have hC := h.lt
  have H := Lib.hid h
  have tt : (t == 0) = false := by simp; omega
  have tt' : (t != 0) = true := by simp; omega
  clear h hl ht
  go_enter Tryz.func35, Tryz.ntmps35
  go_wp2_with fail
  have Z1 := Lib.hid (evAt_of (p := 0) (w := 0) (a := 0) (heap_alloc_new W (.cells #[.int .u32 0, .int .u32 0, .int .i64 0, .int .u32 0, .int .i64 0] 39)))
  have B1 := Lib.hid ((Below.refl W.heap.size W).alloc (Nat.le_refl _) (.cells #[.int .u32 0, .int .u32 0, .int .i64 0, .int .u32 0, .int .i64 0] 39))
  generalize World.alloc _ _ = W1 at *
  have c0 := (H.out.below B1.out).c0
  have c1 := (H.out.below B1.out).c1
  have L1 := LikeG.refl W1
  have LD' := Lib.hid (fun W' (hm : LikeG W1 W') => LD.out W' (hm.2 _ _ B1.out))
  clear LD
  go_region_held3 (fun w' => w'.cell? ⟨C, 0, none⟩ = some (.pointer (some ⟨M, 0, none⟩)) ∧ w'.cell? ⟨C, 1, none⟩ = some (.int .u32 (pc : Nat)) ∧ LikeG W1 w')
    (first | (with_reducible assumption) | (exact ⟨c0, c1, L1⟩) | (exact ⟨c0, c1, like_drew L1⟩) | (obtain ⟨s2, s3, s5⟩ := ‹_ ∧ _ ∧ LikeG W1 _›; first | exact ⟨s2, s3, s5⟩ | exact ⟨s2, s3, like_drew s5⟩ | exact ⟨(hlk.cell _).trans s2, (hlk.cell _).trans s3, s5.trans hlk⟩ | exact ⟨(hlk.cell _).trans s2, (hlk.cell _).trans s3, (like_drew s5).trans hlk⟩))
    (first
    | (go_at_call 53; (with_reducible refine (LD'.out _ (by first | exact L1 | exact like_drew L1 | (apply pick3; with_reducible assumption))).mono ?_); rintro e w8 ⟨rfl, hlk⟩))
  obtain ⟨_, c1, hlk⟩ := ‹_ ∧ _ ∧ LikeG W1 _›
  have Z2 := Lib.hid (Z1.out.out (hlk.out (fun _ => False)) id)
  have B2 := Lib.hid (hlk.2 _ _ B1.out)
  clear ‹World.cell? W1 _ = some (Value.pointer _)› ‹World.cell? W1 _ = some (Value.int _ _)› L1 LD' Z1 B1
  have z0 := Z2.out.c0
  have z1 := Z2.out.c1
  have z2 := Z2.out.c2
  have z3 := Z2.out.c3
  have z4 := Z2.out.c4
  have zf0 := Z2.out.f 0 (by omega)
  have zf1 := Z2.out.f 1 (by omega)
  have zf2 := Z2.out.f 2 (by omega)
  have zf3 := Z2.out.f 3 (by omega)
  have zf4 := Z2.out.f 4 (by omega)
  go_wp2_with fail
  generalize hV : World.setCell _ ⟨W.heap.size, 4, none⟩ _ = V
  have hV' : setEv w8 W.heap.size pc 0 0 0 0 = V := hV
  obtain ⟨ev, q4, o4⟩ := fin_q (S := (· = C)) (W := W) hV' Z2.out (H.out.below B2.out) (Out.of_below _ B2.out) (Nat.le_refl _) (mach_q hC)
  clear hV hV' z0 z1 z2 z3 z4 zf0 zf1 zf2 zf3 zf4
  have x0 := ev.c0
  have x1 := ev.c1
  have x2 := ev.c2
  have x3 := ev.c3
  have x4 := ev.c4
  refine bodyPost_ret (v := .tuple #[.agg #[.int .u32 (pc : Nat), .int .u32 ((0 : Nat) : Int), .int .i64 0, .int .u32 ((0 : Nat) : Int), .int .i64 0], .int .i64 t]) (by simp [results, Tryz.results35, go_sem, x0, x1, x2, x3, x4]) rfl ⟨rfl, q4, o4⟩
end Go.Proofs.YtmlhoagcppofgaaGreatDoor

namespace Go.Proofs.YtmlhoagcppofgaaGreatDoor
open Go Go.RowKit Pl
set_option linter.unusedVariables false

set_option maxRecDepth 100000 in
set_option maxHeartbeats 1000000 in
theorem step_bad {C M pc : Nat} {r : Nat → Nat} {W : World} (h : MachIs C M pc r W) (x : Nat) (hx : x < 4294967296) (o d u v im : Int)
    (hd : ∀ W', Below W.heap.size W W' → Calls Tryz.prog 28 #[.int .u32 (x : Nat)] W' fun e w' => e = .returned (.tuple #[.agg #[.int .i64 o, .int .i64 d, .int .i64 u, .int .i64 v, .int .i32 im], .bool false]) ∧ Below W'.heap.size W' w')
    (hl : ∀ W', Below W.heap.size W W' → Calls Tryz.prog 53 #[.pointer (some ⟨M, 0, none⟩), .int .u32 (pc : Nat)] W' (LoadPost W' x 0)) :
    Calls Tryz.prog 35 #[.pointer (some ⟨C, 0, none⟩)] W (DoPost (MachIs C M pc r) (· = C) W (.agg #[.int .u32 (pc : Nat), .int .u32 (x : Nat), .int .i64 0, .int .u32 ((0 : Nat) : Int), .int .i64 0]) 5) := by
  have LD := Lib.hid hl
  have hC := h.lt
  have H := Lib.hid h
  have DD := Lib.hid hd
  clear h hl hd
  go_enter Tryz.func35, Tryz.ntmps35
  go_wp2_with fail
  have Z1 := Lib.hid (evAt_of (p := 0) (w := 0) (a := 0) (heap_alloc_new W (.cells #[.int .u32 0, .int .u32 0, .int .i64 0, .int .u32 0, .int .i64 0] 39)))
  have B1 := Lib.hid ((Below.refl W.heap.size W).alloc (Nat.le_refl _) (.cells #[.int .u32 0, .int .u32 0, .int .i64 0, .int .u32 0, .int .i64 0] 39))
  generalize World.alloc _ _ = W1 at *
  have c0 := (H.out.below B1.out).c0
  have c1 := (H.out.below B1.out).c1
  have L1 := LikeG.refl W1
  have LD' := Lib.hid (fun W' (hm : LikeG W1 W') => LD.out W' (hm.2 _ _ B1.out))
  clear LD
  go_region_held3 (fun w' => w'.cell? ⟨C, 0, none⟩ = some (.pointer (some ⟨M, 0, none⟩)) ∧ w'.cell? ⟨C, 1, none⟩ = some (.int .u32 (pc : Nat)) ∧ LikeG W1 w')
    (first | (with_reducible assumption) | (exact ⟨c0, c1, L1⟩) | (exact ⟨c0, c1, like_drew L1⟩) | (obtain ⟨s2, s3, s5⟩ := ‹_ ∧ _ ∧ LikeG W1 _›; first | exact ⟨s2, s3, s5⟩ | exact ⟨s2, s3, like_drew s5⟩ | exact ⟨(hlk.cell _).trans s2, (hlk.cell _).trans s3, s5.trans hlk⟩ | exact ⟨(hlk.cell _).trans s2, (hlk.cell _).trans s3, (like_drew s5).trans hlk⟩))
    (first
    | (go_at_call 53; (with_reducible refine (LD'.out _ (by first | exact L1 | exact like_drew L1 | (apply pick3; with_reducible assumption))).mono ?_); rintro e w8 ⟨rfl, hlk⟩))
  obtain ⟨_, c1, hlk⟩ := ‹_ ∧ _ ∧ LikeG W1 _›
  have Z2 := Lib.hid (Z1.out.out (hlk.out (fun _ => False)) id)
  have B2 := Lib.hid (hlk.2 _ _ B1.out)
  clear ‹World.cell? W1 _ = some (Value.pointer _)› ‹World.cell? W1 _ = some (Value.int _ _)› L1 LD' Z1 B1
  go_wp2_with fail
  have E3 := Lib.hid (evAt_of (p := pc) (w := x) (a := 0) (heap_alloc_new w8 (.cells #[.int .u32 (pc : Nat), .int .u32 (x : Nat), .int .i64 0, .int .u32 0, .int .i64 0] 39)))
  have B3 := Lib.hid (B2.out.alloc B2.out.size (.cells #[.int .u32 (pc : Nat), .int .u32 (x : Nat), .int .i64 0, .int .u32 0, .int .i64 0] 39))
  have Z3 := Lib.hid (Z2.out.out (Out.of_below (fun _ => False) ((Below.refl w8.heap.size w8).alloc (Nat.le_refl _) (.cells #[.int .u32 (pc : Nat), .int .u32 (x : Nat), .int .i64 0, .int .u32 0, .int .i64 0] 39))) id)
  have hz8 := Z2.out.lt
  generalize World.alloc _ _ = W3 at *
  refine (DD.out W3 B3.out).mono ?_
  rintro e w4 ⟨rfl, hb4⟩
  have E4 := Lib.hid (E3.out.out (Out.of_below (fun _ => False) hb4) id)
  have Z4 := Lib.hid (Z3.out.out (Out.of_below (fun _ => False) hb4) id)
  have B4 := Lib.hid (B3.out.trans (hb4.mono B3.out.size))
  clear DD E3 Z3 B3 hb4 Z2 B2 c1
  generalize w8.heap.size = EB at *
  have hz4 := Z4.out.lt
  have he4 := E4.out.lt
  have e0 := E4.out.c0
  have e1 := E4.out.c1
  have e2 := E4.out.c2
  have e3 := E4.out.c3
  have e4 := E4.out.c4
  have z0 := Z4.out.c0
  have z1 := Z4.out.c1
  have z2 := Z4.out.c2
  have z3 := Z4.out.c3
  have z4 := Z4.out.c4
  have zf0 := Z4.out.f 0 (by omega)
  have zf1 := Z4.out.f 1 (by omega)
  have zf2 := Z4.out.f 2 (by omega)
  have zf3 := Z4.out.f 3 (by omega)
  have zf4 := Z4.out.f 4 (by omega)
  go_wp2_with fail
  generalize hV : World.alloc _ _ = V
  have hV' : (setEv w4 W.heap.size pc x 0 0 0).alloc (.cells #[.int .i64 o, .int .i64 d, .int .i64 u, .int .i64 v, .int .i32 im] 34) = V := hV
  obtain ⟨ev, q4, o4⟩ := fin_q (S := (· = C)) (W := W) (V := setEv w4 W.heap.size pc x 0 0 0) rfl Z4.out (H.out.below B4.out) (Out.of_below _ B4.out) (Nat.le_refl _) (mach_q hC)
  have k9 : Below (setEv w4 W.heap.size pc x 0 0 0).heap.size (setEv w4 W.heap.size pc x 0 0 0) V := by rw [← hV']; exact (Below.refl _ _).alloc (Nat.le_refl _) _
  have o9 := Out.of_below (fun _ => False) k9
  have ev9 := ev.out o9 id
  have q9 := q4.out o9 id
  have o8 := o4.trans (Out.of_below (· = C) k9)
  clear hV hV' ev q4 o4 k9 o9 z0 z1 z2 z3 z4 zf0 zf1 zf2 zf3 zf4 e0 e1 e2 e3 e4
  have x0 := ev9.c0
  have x1 := ev9.c1
  have x2 := ev9.c2
  have x3 := ev9.c3
  have x4 := ev9.c4
  refine bodyPost_ret (v := .tuple #[.agg #[.int .u32 (pc : Nat), .int .u32 (x : Nat), .int .i64 0, .int .u32 ((0 : Nat) : Int), .int .i64 0], .int .i64 5]) (by simp [results, Tryz.results35, go_sem, x0, x1, x2, x3, x4]) rfl ⟨rfl, q9, o8⟩
end Go.Proofs.YtmlhoagcppofgaaGreatDoor

namespace Go.Proofs.YtmlhoagcppofgaaGreatDoor
open Go Go.RowKit Pl
set_option linter.unusedVariables false

set_option maxRecDepth 100000 in
set_option maxHeartbeats 1000000 in
theorem step_ok {C M pc : Nat} {r : Nat → Nat} {W : World} (h : MachIs C M pc r W) (x : Nat) (hx : x < 4294967296) (o d u v im : Int)
    (hd : ∀ W', Below W.heap.size W W' → Calls Tryz.prog 28 #[.int .u32 (x : Nat)] W' fun e w' => e = .returned (.tuple #[.agg #[.int .i64 o, .int .i64 d, .int .i64 u, .int .i64 v, .int .i32 im], .bool true]) ∧ Below W'.heap.size W' w')
    (hl : ∀ W', Below W.heap.size W W' → Calls Tryz.prog 53 #[.pointer (some ⟨M, 0, none⟩), .int .u32 (pc : Nat)] W' (LoadPost W' x 0))
    (p1 w1 : Nat) (k1 : Int) (a1 : Nat) (s1 t : Int) {Q : World → Prop} {S : Nat → Prop} (hS : ∀ j, S j → j < W.heap.size) (hQ : ∀ B V V', W.heap.size ≤ B → Q V → Out (· = B) V V' → Q V')
    (hdo : ∀ W', Below W.heap.size W W' → Calls Tryz.prog 54 #[.pointer (some ⟨C, 0, none⟩), .agg #[.int .i64 o, .int .i64 d, .int .i64 u, .int .i64 v, .int .i32 im], .agg #[.int .u32 (pc : Nat), .int .u32 (x : Nat), .int .i64 0, .int .u32 ((0 : Nat) : Int), .int .i64 0]] W' (DoPost Q S W' (.agg #[.int .u32 (p1 : Nat), .int .u32 (w1 : Nat), .int .i64 k1, .int .u32 (a1 : Nat), .int .i64 s1]) t)) :
    Calls Tryz.prog 35 #[.pointer (some ⟨C, 0, none⟩)] W (DoPost Q S W (.agg #[.int .u32 (p1 : Nat), .int .u32 (w1 : Nat), .int .i64 k1, .int .u32 (a1 : Nat), .int .i64 s1]) t) := by
  have LD := Lib.hid hl
  have hC := h.lt
  have H := Lib.hid h
  have DD := Lib.hid hd
  have DO := Lib.hid hdo
  have HQ := Lib.hid hQ
  have HS := Lib.hid hS
  clear h hl hd hdo hQ hS
  go_enter Tryz.func35, Tryz.ntmps35
  go_wp2_with fail
  have Z1 := Lib.hid (evAt_of (p := 0) (w := 0) (a := 0) (heap_alloc_new W (.cells #[.int .u32 0, .int .u32 0, .int .i64 0, .int .u32 0, .int .i64 0] 39)))
  have B1 := Lib.hid ((Below.refl W.heap.size W).alloc (Nat.le_refl _) (.cells #[.int .u32 0, .int .u32 0, .int .i64 0, .int .u32 0, .int .i64 0] 39))
  generalize World.alloc _ _ = W1 at *
  have c0 := (H.out.below B1.out).c0
  have c1 := (H.out.below B1.out).c1
  have L1 := LikeG.refl W1
  have LD' := Lib.hid (fun W' (hm : LikeG W1 W') => LD.out W' (hm.2 _ _ B1.out))
  clear LD
  go_region_held3 (fun w' => w'.cell? ⟨C, 0, none⟩ = some (.pointer (some ⟨M, 0, none⟩)) ∧ w'.cell? ⟨C, 1, none⟩ = some (.int .u32 (pc : Nat)) ∧ LikeG W1 w')
    (first | (with_reducible assumption) | (exact ⟨c0, c1, L1⟩) | (exact ⟨c0, c1, like_drew L1⟩) | (obtain ⟨s2, s3, s5⟩ := ‹_ ∧ _ ∧ LikeG W1 _›; first | exact ⟨s2, s3, s5⟩ | exact ⟨s2, s3, like_drew s5⟩ | exact ⟨(hlk.cell _).trans s2, (hlk.cell _).trans s3, s5.trans hlk⟩ | exact ⟨(hlk.cell _).trans s2, (hlk.cell _).trans s3, (like_drew s5).trans hlk⟩))
    (first
    | (go_at_call 53; (with_reducible refine (LD'.out _ (by first | exact L1 | exact like_drew L1 | (apply pick3; with_reducible assumption))).mono ?_); rintro e w8 ⟨rfl, hlk⟩))
  obtain ⟨_, c1, hlk⟩ := ‹_ ∧ _ ∧ LikeG W1 _›
  have Z2 := Lib.hid (Z1.out.out (hlk.out (fun _ => False)) id)
  have B2 := Lib.hid (hlk.2 _ _ B1.out)
  clear ‹World.cell? W1 _ = some (Value.pointer _)› ‹World.cell? W1 _ = some (Value.int _ _)› L1 LD' Z1 B1
  go_wp2_with fail
  have E3 := Lib.hid (evAt_of (p := pc) (w := x) (a := 0) (heap_alloc_new w8 (.cells #[.int .u32 (pc : Nat), .int .u32 (x : Nat), .int .i64 0, .int .u32 0, .int .i64 0] 39)))
  have B3 := Lib.hid (B2.out.alloc B2.out.size (.cells #[.int .u32 (pc : Nat), .int .u32 (x : Nat), .int .i64 0, .int .u32 0, .int .i64 0] 39))
  have Z3 := Lib.hid (Z2.out.out (Out.of_below (fun _ => False) ((Below.refl w8.heap.size w8).alloc (Nat.le_refl _) (.cells #[.int .u32 (pc : Nat), .int .u32 (x : Nat), .int .i64 0, .int .u32 0, .int .i64 0] 39))) id)
  have hz8 := Z2.out.lt
  generalize World.alloc _ _ = W3 at *
  refine (DD.out W3 B3.out).mono ?_
  rintro e w4 ⟨rfl, hb4⟩
  have E4 := Lib.hid (E3.out.out (Out.of_below (fun _ => False) hb4) id)
  have Z4 := Lib.hid (Z3.out.out (Out.of_below (fun _ => False) hb4) id)
  have B4 := Lib.hid (B3.out.trans (hb4.mono B3.out.size))
  clear DD E3 Z3 B3 hb4 Z2 B2 c1
  generalize w8.heap.size = EB at *
  have hz4 := Z4.out.lt
  have he4 := E4.out.lt
  have e0 := E4.out.c0
  have e1 := E4.out.c1
  have e2 := E4.out.c2
  have e3 := E4.out.c3
  have e4 := E4.out.c4
  go_wp2_with fail
  have B5 := Lib.hid (B4.out.alloc B4.out.size (.cells #[.int .i64 o, .int .i64 d, .int .i64 u, .int .i64 v, .int .i32 im] 34))
  have Z5 := Lib.hid (Z4.out.out (Out.of_below (fun _ => False) ((Below.refl w4.heap.size w4).alloc (Nat.le_refl _) (.cells #[.int .i64 o, .int .i64 d, .int .i64 u, .int .i64 v, .int .i32 im] 34))) id)
  generalize World.alloc _ _ = W5 at *
  clear B4 Z4 E4 e0 e1 e2 e3 e4
  refine (DO.out W5 B5.out).mono ?_
  rintro e w6 ⟨rfl, hq, ho⟩
  have Z6 := Lib.hid (Z5.out.out ho (fun g => by have := HS.out _ g; omega))
  have O6 := Lib.hid ((Out.of_below S B5.out).trans ho)
  have Q6 := Lib.hid hq
  clear DO hq ho Z5 B5
  have z0 := Z6.out.c0
  have z1 := Z6.out.c1
  have z2 := Z6.out.c2
  have z3 := Z6.out.c3
  have z4 := Z6.out.c4
  have zf0 := Z6.out.f 0 (by omega)
  have zf1 := Z6.out.f 1 (by omega)
  have zf2 := Z6.out.f 2 (by omega)
  have zf3 := Z6.out.f 3 (by omega)
  have zf4 := Z6.out.f 4 (by omega)
  go_wp2_with fail
  generalize hV : World.setCell _ ⟨W.heap.size, 4, none⟩ _ = V
  have hV' : setEv w6 W.heap.size p1 w1 k1 a1 s1 = V := hV
  obtain ⟨ev, q4, o4⟩ := fin_q hV' Z6.out Q6.out O6.out (Nat.le_refl _) HQ.out
  clear hV hV' z0 z1 z2 z3 z4 zf0 zf1 zf2 zf3 zf4
  have x0 := ev.c0
  have x1 := ev.c1
  have x2 := ev.c2
  have x3 := ev.c3
  have x4 := ev.c4
  refine bodyPost_ret (v := .tuple #[.agg #[.int .u32 (p1 : Nat), .int .u32 (w1 : Nat), .int .i64 k1, .int .u32 (a1 : Nat), .int .i64 s1], .int .i64 t]) (by simp [results, Tryz.results35, go_sem, x0, x1, x2, x3, x4]) rfl ⟨rfl, q4, o4⟩
end Go.Proofs.YtmlhoagcppofgaaGreatDoor
