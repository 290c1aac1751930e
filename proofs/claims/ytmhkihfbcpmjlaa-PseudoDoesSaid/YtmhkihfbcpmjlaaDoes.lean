/- Contract of pintleref12.Does: registers behind instructions that need no memory. -/
import Derived.Test.YtmhkihfbcpmjlaaRegP
import Derived.Test.YtmhkihfbcpmjlaaOpen
import Derived.Test.YtmhkihfbcpmjlaaProg
import Derived.WalkSpells
import Derived.WalkSmall
import Derived.Handy
import Derived.Lib.Hide
import Derived.BigQuiet
import Derived.Laws.StructEq
import Derived.Deep.QuietTactic
import Derived.OwnWalk
import Derived.Deep.OwnRows
import Derived.Deep.MidRow
import Derived.BigRegion
namespace Go.Proofs.Ytmhkihfbcpmjlaa
open Go Go.RowKit Pl
set_option linter.unusedVariables false

/-- the machine in its block -/
structure MachR (B : Nat) (f : Int → Int) (w : World) : Prop where
  v : ∀ k : Nat, k < 32 → w.cell? ⟨B, 2 + k, none⟩ = some (.int .u32 (f (k : Int)))
  fz : ∀ k, k < 34 → w.frozen? ⟨B, k, none⟩ = false
  lt : B < w.heap.size
theorem MachR.grown {B : Nat} {f : Int → Int} {w w' : World} (h : MachR B f w) (hb : Below w.heap.size w w') : MachR B f w' :=
  ⟨fun k hk => (hb.cell (by exact h.lt)).trans (h.v k hk), fun k hk => (hb.frozen (by exact h.lt)).trans (h.fz k hk), Nat.lt_of_lt_of_le h.lt hb.size⟩
theorem MachR.drew {B : Nat} {f : Int → Int} {w : World} (h : MachR B f w) : MachR B f w.drew := ⟨h.v, h.fz, h.lt⟩
theorem machR_set {B D : Nat} {f : Int → Int} {x : Int} {w : World} (h : MachR B f w) (hD : D < 32) : MachR B (updF f (D : Int) x) (w.setCell ⟨B, 2 + D, none⟩ (.int .u32 x)) := by
  refine ⟨fun k hk => ?_, fun k hk => ?_, ?_⟩
  · unfold updF
    by_cases g : k = D
    · subst g; rw [if_pos rfl]; exact World.cell?_setCell_same _ _ _ (h.v k hk)
    · rw [if_neg (by omega), World.cell?_setCell_other (h := fun e => g (by injection e with _ e2 _; omega))]; exact h.v k hk
  · rw [World.frozen?_setCell]; exact h.fz k hk
  · rw [World.size_setCell]; exact h.lt
theorem grown_set {w w1 : World} {B k : Nat} {x : Value} (h : w.grownBy w1 (some B)) : w.grownBy (w1.setCell ⟨B, k, none⟩ x) (some B) := by
  refine ⟨h.os, h.tape, h.output, by rw [World.size_setCell]; exact h.size, fun i hi hne => ?_⟩
  rw [← h.block i hi hne]
  exact Below.heap_setCell _ _ _ _ (fun e => hne (by rw [e]))
theorem grown_alloc {w w1 : World} {r : Option Nat} (h : w.grownBy w1 r) (o : Obj) : w.grownBy (w1.alloc o) r := by
  refine ⟨h.os, h.tape, h.output, ?_, fun i hi hne => ?_⟩
  · have := h.size; simp; omega
  · rw [heap_alloc_old _ _ (by have := h.size; omega)]; exact h.block i hi hne
theorem grown_drew {w w1 : World} {r : Option Nat} (h : w.grownBy w1 r) : w.grownBy w1.drew r := ⟨h.os, h.tape, h.output, h.size, h.block⟩
theorem l5_grown {w w' : World} {b0 off B : Nat} {l : List Q5} (h : L5 w (some ⟨b0, off, none⟩) l) (hg : w.grownBy w' (some B)) (hB : b0 ≠ B) : L5 w' (some ⟨b0, off, none⟩) l := by
  obtain ⟨h1, h2 | ⟨b, o, e, hlt, hc⟩⟩ := h
  · exact ⟨h1, Or.inl h2⟩
  · obtain ⟨rfl, rfl⟩ : b0 = b ∧ off = o := by simpa using e
    refine ⟨h1, Or.inr ⟨b0, off, rfl, Nat.lt_of_lt_of_le hlt hg.size, fun k x hx => ?_⟩⟩
    obtain ⟨c0, c1, c2, c3, c4⟩ := hc k x hx
    have ne : some b0 ≠ some B := fun e => hB (by cases e; rfl)
    exact ⟨hg.cell c0 ne, hg.cell c1 ne, hg.cell c2 ne, hg.cell c3 ne, hg.cell c4 ne⟩
theorem l5_at {w : World} {b0 off k : Nat} {l : List Q5} {x : Q5} (h : L5 w (some ⟨b0, off, none⟩) l) (hx : l[k]? = some x) :
    w.cell? ⟨b0, off + k * 5, none⟩ = some (.int .i64 x.o) ∧ w.cell? ⟨b0, off + k * 5 + 1, none⟩ = some (.int .i64 x.d) ∧ w.cell? ⟨b0, off + k * 5 + 2, none⟩ = some (.int .i64 x.a) ∧
    w.cell? ⟨b0, off + k * 5 + 3, none⟩ = some (.int .i64 x.b) ∧ w.cell? ⟨b0, off + k * 5 + 4, none⟩ = some (.int .i32 x.i) := by
  obtain ⟨h1, rfl | ⟨b, o, e, hlt, hc⟩⟩ := h
  · simp at hx
  · obtain ⟨rfl, rfl⟩ : b0 = b ∧ off = o := by simpa using e
    exact hc k x hx
theorem below3 (w : World) (a b c : Obj) : Below w.heap.size w (((w.alloc a).alloc b).alloc c) :=
  (((Below.refl _ _).alloc (Nat.le_refl _) _).alloc (by simp) _).alloc (by simp <;> omega) _
theorem heap3_1 (w : World) (a b c : Obj) : (((w.alloc a).alloc b).alloc c).heap[w.heap.size + 1]? = some b := by
  rw [heap_alloc_old _ _ (by simp)]
  have := heap_alloc_new (w.alloc a) b
  simpa using this
theorem machR_new {f : Int → Int} (w : World) (B : Nat) (MA : Array Value) (t : TypeId) (hB : w.heap.size = B) (h0 : MA.size = 34) (h : ∀ k, k < 32 → MA[2 + k]? = some (.int .u32 (f (k : Int)))) : MachR B f (w.alloc (.cells MA t)) := by
  subst hB
  refine ⟨fun k hk => ?_, fun k hk => by simp, by simp⟩
  rw [World.cell?_alloc_new]; exact h k hk
theorem box_cells (w : World) (a : Addr) (v : Value) (cs : Array Value) (t : TypeId) : ∀ j u, cs[j]? = some u → ((w.setCell a v).alloc (.cells cs t)).drew.cell? ⟨w.heap.size, j, none⟩ = some u := by
  intro j u h
  show ((w.setCell a v).alloc (.cells cs t)).cell? ⟨w.heap.size, j, none⟩ = some u
  have e : w.heap.size = (w.setCell a v).heap.size := (World.size_setCell ..).symm
  rw [e, World.cell?_alloc_new]
  exact h
def zs32 : Array Value := #[.int .u32 0, .int .u32 0, .int .u32 0, .int .u32 0, .int .u32 0, .int .u32 0, .int .u32 0, .int .u32 0, .int .u32 0, .int .u32 0, .int .u32 0, .int .u32 0, .int .u32 0, .int .u32 0, .int .u32 0, .int .u32 0, .int .u32 0, .int .u32 0, .int .u32 0, .int .u32 0, .int .u32 0, .int .u32 0, .int .u32 0, .int .u32 0, .int .u32 0, .int .u32 0, .int .u32 0, .int .u32 0, .int .u32 0, .int .u32 0, .int .u32 0, .int .u32 0]
theorem zeroM : (Try.prog.info? 24).map (·.size) = some 32 := by kernel_rfl
set_option maxRecDepth 100000 in
set_option maxHeartbeats 4000000 in
theorem does_any (f : Int → Int) (b0 off c : Nat) (l : List Q5) (w : World) (hf : Words f) (hl : L5 w (some ⟨b0, off, none⟩) l) (hb0 : b0 < w.heap.size) (hn : l.length ≤ 100) (hk : ∀ x ∈ l, Okd x) :
    Calls Try.prog 5 #[.agg (cellsR f).toArray, .slice (some ⟨b0, off, none⟩) l.length c] w fun e w' => e = .returned (.agg (cellsR (doesD f l)).toArray) ∧ Below w.heap.size w w' := by
  obtain ⟨vs, hvs⟩ : ∃ vs : Array Value, (cellsR f).toArray = vs := ⟨_, rfl⟩
  have hsz : vs.size = 32 := by rw [← hvs]; simp [cellsR_len]
  have hat : ∀ k, k < 32 → vs[k]? = some (.int .u32 (f (k : Int))) := fun k hk => by rw [← hvs]; simpa using cellsR_at f hk
  rw [hvs]
  clear hvs
  have HSZ := Lib.hid (show (Try.prog.info? 24).map (·.size) = some vs.size by rw [hsz]; exact zeroM)
  have HV := Lib.hid (show ∀ (c1 : Obj), ((w.alloc (.cells vs 24)).alloc c1).heap[w.heap.size]? = some (.cells vs 24 (0, 0)) from fun c1 => by
    rw [heap_alloc_old _ _ (by simp), heap_alloc_new])
  have HAT := Lib.hid hat
  clear hat
  go_enter Try.func5, Try.ntmps5
  go_wp2_with (refine wpList_load_row rfl 24 (.tmp 2) rfl w.heap.size rfl 24 vs (0, 0) _ (HV.out _) Try.underlying24 rfl HSZ.out ?_)
  have LAY := Lib.hid (fun z h => lay_arr 2 vs z h)
  generalize hMA : Array.foldl _ _ _ _ _ = MA
  have hma : MA.size = 34 ∧ ∀ k, k < 32 → MA[2 + k]? = some (.int .u32 (f (k : Int))) := by
    rw [← hMA]
    have h := LAY.out #[.pointer none, .int .u32 0, .int .u32 0, .int .u32 0, .int .u32 0, .int .u32 0, .int .u32 0, .int .u32 0, .int .u32 0, .int .u32 0, .int .u32 0, .int .u32 0, .int .u32 0, .int .u32 0, .int .u32 0, .int .u32 0, .int .u32 0, .int .u32 0, .int .u32 0, .int .u32 0, .int .u32 0, .int .u32 0, .int .u32 0, .int .u32 0, .int .u32 0, .int .u32 0, .int .u32 0, .int .u32 0, .int .u32 0, .int .u32 0, .int .u32 0, .int .u32 0, .int .u32 0, .int .u32 0] (by rw [hsz]; decide)
    rw [hsz] at h
    exact ⟨h.1, fun k hk => by rw [h.2.1 k hk]; exact HAT.out k hk⟩
  clear hMA
  have M0 := Lib.hid (machR_new (f := f) _ (w.heap.size + 1 + 1) MA 41 (by simp) hma.1 hma.2 : MachR _ f (((w.alloc (.cells vs 24)).alloc (.cells zs32 24)).alloc (.cells MA 41)))
  have B0 := Lib.hid (below3 w (.cells vs 24) (.cells zs32 24) (.cells MA 41))
  have R0 := Lib.hid (heap3_1 w (.cells vs 24) (.cells zs32 24) (.cells MA 41))
  have E0 : World.alloc (World.alloc (World.alloc w (.cells vs 24)) (.cells #[.int .u32 0, .int .u32 0, .int .u32 0, .int .u32 0, .int .u32 0, .int .u32 0, .int .u32 0, .int .u32 0, .int .u32 0, .int .u32 0, .int .u32 0, .int .u32 0, .int .u32 0, .int .u32 0, .int .u32 0, .int .u32 0, .int .u32 0, .int .u32 0, .int .u32 0, .int .u32 0, .int .u32 0, .int .u32 0, .int .u32 0, .int .u32 0, .int .u32 0, .int .u32 0, .int .u32 0, .int .u32 0, .int .u32 0, .int .u32 0, .int .u32 0, .int .u32 0] 24)) (.cells MA 41) = ((w.alloc (.cells vs 24)).alloc (.cells zs32 24)).alloc (.cells MA 41) := rfl
  rw [E0]
  clear E0
  generalize World.alloc (World.alloc (World.alloc w _) _) _ = W0 at *
  have L0 := Lib.hid (hl.later B0.out)
  have HF := Lib.hid hf
  have HK := Lib.hid hk
  have ltB := M0.out.lt
  have INI := Lib.hid (World.grownBy.refl W0 (some (w.heap.size + 1 + 1)))
  clear hma hl hf hk
  go_loopw [6] (fun i wr => ∃ k : Nat, k ≤ l.length ∧ i = .int .i64 k ∧ MachR (w.heap.size + 1 + 1) (doesD f (l.take k)) wr ∧ W0.grownBy wr (some (w.heap.size + 1 + 1))) (fun i _ => l.length - (intOf i).toNat)
  case atStart => exact ⟨0, by omega, rfl, by simpa [doesD] using M0.out, INI.out⟩
  case round =>
    obtain ⟨k, hk, rfl, hm, hg⟩ := hrel
    by_cases hlt : k < l.length
    · obtain ⟨x, hx⟩ : ∃ x, l[k]? = some x := ⟨_, List.getElem?_eq_getElem hlt⟩
      have OKX := Lib.hid (HK.out x (List.mem_of_getElem? hx))
      obtain ⟨o, d, a, b, i⟩ := x
      obtain ⟨ho, hd, ha, hb, hi, hcan⟩ := OKX.out
      simp only at ho hd ha hb hi
      clear hcan
      obtain ⟨D, rfl⟩ : ∃ D : Nat, d = D := ⟨d.toNat, by omega⟩
      obtain ⟨A, rfl⟩ : ∃ A : Nat, a = A := ⟨a.toNat, by omega⟩
      obtain ⟨E, rfl⟩ : ∃ E : Nat, b = E := ⟨b.toNat, by omega⟩
      have hD : D < 32 := by omega
      have hA : A < 32 := by omega
      have hE : E < 32 := by omega
      have gA : (A : Int) < 32 := by omega
      have gE : (E : Int) < 32 := by omega
      have gD : (D : Int) < 32 := by omega
      have pA : (0 : Int) ≤ (A : Int) := by omega
      have pE : (0 : Int) ≤ (E : Int) := by omega
      have pD : (0 : Int) ≤ (D : Int) := by omega
      obtain ⟨c0, c1, c2, c3, c4⟩ := l5_at (l5_grown L0.out hg (by omega)) hx
      have TK := Lib.hid (doesD_take f l k _ hx)
      have u1 := IntWalk.i64_in ((k : Int) + 1) (by omega)
      have t1 : decide ((k : Int) < (l.length : Int)) = true := by simp; omega
      have g0 : (0 : Int) ≤ (k : Int) := by omega
      have g1 : (k : Int) < (l.length : Int) := by omega
      generalize doesD f (l.take k) = g at *
      have cA := hm.v A hA
      have cE := hm.v E hE
      have cD := hm.v D hD
      have zD := hm.fz (2 + D) (by omega)
      have lb := hm.lt
      have HM2 := Lib.hid hm
      have HG2 := Lib.hid hg
      clear hm hg hx hd ha hb OKX
      rcases ho with rfl | rfl | rfl
      · have hv : valD g ⟨42, D, A, E, i⟩ = i % 4294967296 := by simp [valD]
        have M2 := Lib.hid ((machR_set (x := i % 4294967296) HM2.out hD).grown (w' := (wr.setCell ⟨w.heap.size + 1 + 1, 2 + D, none⟩ (.int .u32 (i % 4294967296))).alloc (.cells #[.int .i64 42, .int .i64 D, .int .i64 A, .int .i64 E, .int .i32 i] 35)) ((Below.refl _ _).alloc (Nat.le_refl _) _)).drew
        have G2 := Lib.hid (grown_drew (grown_alloc (grown_set (k := 2 + D) (x := .int .u32 (i % 4294967296)) HG2.out) (.cells #[.int .i64 42, .int .i64 D, .int .i64 A, .int .i64 E, .int .i32 i] 35)))
        have BX := Lib.hid (box_cells wr ⟨w.heap.size + 1 + 1, 2 + D, none⟩ (.int .u32 (i % 4294967296)) #[.int .i64 42, .int .i64 D, .int .i64 A, .int .i64 E, .int .i32 i] 35)
        go_wp2_with fail
        go_region
        generalize World.drew (World.alloc _ _) = W2 at *
        have x0 := BX.out 0 _ rfl
        have x1 := BX.out 1 _ rfl
        have x2 := BX.out 2 _ rfl
        have x3 := BX.out 3 _ rfl
        have x4 := BX.out 4 _ rfl
        have r0 : W2.cell? ⟨w.heap.size + 1 + 1, 2, none⟩ = some (.int .u32 (updF g (D : Int) (i % 4294967296) ((0 : Nat) : Int))) := M2.out.v 0 (by omega)
        have z0 : W2.frozen? ⟨w.heap.size + 1 + 1, 2, none⟩ = false := M2.out.fz 2 (by omega)
        clear c0 c1 c2 c3 c4 cA cE cD zD
        go_wp2_with fail
        refine ⟨⟨k + 1, by omega, rfl, ?_, grown_set G2.out⟩, by simp [intOf]; omega⟩
        rw [TK.out]
        unfold stepD
        rw [hv]
        exact machR_set (D := 0) M2.out (by omega)
      · have hv : valD g ⟨19, D, A, E, i⟩ = (g (A : Int) + i) % 4294967296 := by simp [valD]
        have M2 := Lib.hid ((machR_set (x := (g (A : Int) + i) % 4294967296) HM2.out hD).grown (w' := (wr.setCell ⟨w.heap.size + 1 + 1, 2 + D, none⟩ (.int .u32 ((g (A : Int) + i) % 4294967296))).alloc (.cells #[.int .i64 19, .int .i64 D, .int .i64 A, .int .i64 E, .int .i32 i] 35)) ((Below.refl _ _).alloc (Nat.le_refl _) _)).drew
        have G2 := Lib.hid (grown_drew (grown_alloc (grown_set (k := 2 + D) (x := .int .u32 ((g (A : Int) + i) % 4294967296)) HG2.out) (.cells #[.int .i64 19, .int .i64 D, .int .i64 A, .int .i64 E, .int .i32 i] 35)))
        have BX := Lib.hid (box_cells wr ⟨w.heap.size + 1 + 1, 2 + D, none⟩ (.int .u32 ((g (A : Int) + i) % 4294967296)) #[.int .i64 19, .int .i64 D, .int .i64 A, .int .i64 E, .int .i32 i] 35)
        go_wp2_with fail
        go_region
        generalize World.drew (World.alloc _ _) = W2 at *
        have x0 := BX.out 0 _ rfl
        have x1 := BX.out 1 _ rfl
        have x2 := BX.out 2 _ rfl
        have x3 := BX.out 3 _ rfl
        have x4 := BX.out 4 _ rfl
        have r0 : W2.cell? ⟨w.heap.size + 1 + 1, 2, none⟩ = some (.int .u32 (updF g (D : Int) ((g (A : Int) + i) % 4294967296) ((0 : Nat) : Int))) := M2.out.v 0 (by omega)
        have z0 : W2.frozen? ⟨w.heap.size + 1 + 1, 2, none⟩ = false := M2.out.fz 2 (by omega)
        clear c0 c1 c2 c3 c4 cA cE cD zD
        go_wp2_with fail
        refine ⟨⟨k + 1, by omega, rfl, ?_, grown_set G2.out⟩, by simp [intOf]; omega⟩
        rw [TK.out]
        unfold stepD
        rw [hv]
        exact machR_set (D := 0) M2.out (by omega)
      · have hv : valD g ⟨1, D, A, E, i⟩ = (g (A : Int) + g (E : Int)) % 4294967296 := by simp [valD]
        have M2 := Lib.hid ((machR_set (x := (g (A : Int) + g (E : Int)) % 4294967296) HM2.out hD).grown (w' := (wr.setCell ⟨w.heap.size + 1 + 1, 2 + D, none⟩ (.int .u32 ((g (A : Int) + g (E : Int)) % 4294967296))).alloc (.cells #[.int .i64 1, .int .i64 D, .int .i64 A, .int .i64 E, .int .i32 i] 35)) ((Below.refl _ _).alloc (Nat.le_refl _) _)).drew
        have G2 := Lib.hid (grown_drew (grown_alloc (grown_set (k := 2 + D) (x := .int .u32 ((g (A : Int) + g (E : Int)) % 4294967296)) HG2.out) (.cells #[.int .i64 1, .int .i64 D, .int .i64 A, .int .i64 E, .int .i32 i] 35)))
        have BX := Lib.hid (box_cells wr ⟨w.heap.size + 1 + 1, 2 + D, none⟩ (.int .u32 ((g (A : Int) + g (E : Int)) % 4294967296)) #[.int .i64 1, .int .i64 D, .int .i64 A, .int .i64 E, .int .i32 i] 35)
        go_wp2_with fail
        go_region
        generalize World.drew (World.alloc _ _) = W2 at *
        have x0 := BX.out 0 _ rfl
        have x1 := BX.out 1 _ rfl
        have x2 := BX.out 2 _ rfl
        have x3 := BX.out 3 _ rfl
        have x4 := BX.out 4 _ rfl
        have r0 : W2.cell? ⟨w.heap.size + 1 + 1, 2, none⟩ = some (.int .u32 (updF g (D : Int) ((g (A : Int) + g (E : Int)) % 4294967296) ((0 : Nat) : Int))) := M2.out.v 0 (by omega)
        have z0 : W2.frozen? ⟨w.heap.size + 1 + 1, 2, none⟩ = false := M2.out.fz 2 (by omega)
        clear c0 c1 c2 c3 c4 cA cE cD zD
        go_wp2_with fail
        refine ⟨⟨k + 1, by omega, rfl, ?_, grown_set G2.out⟩, by simp [intOf]; omega⟩
        rw [TK.out]
        unfold stepD
        rw [hv]
        exact machR_set (D := 0) M2.out (by omega)
    · obtain rfl : k = l.length := by omega
      have t1 : decide ((l.length : Int) < (l.length : Int)) = false := by simp
      rw [List.take_length] at hm
      have lb := hm.lt
      have BW := Lib.hid (show Below w.heap.size w wr from B0.out.trans ⟨hg.os, hg.tape, hg.output, hg.size, fun i hi => hg.block i (by omega) (by intro e; cases e; omega)⟩)
      have RB := Lib.hid ((hg.block (w.heap.size + 1) (by omega) (by simp)).trans R0.out)
      have RG := Lib.hid (show wr.rangeAt (w.heap.size + 1 + 1) 2 (cellsR (doesD f l)) from fun j v hj => by
        obtain ⟨hjl, _⟩ := List.getElem?_eq_some_iff.1 hj
        rw [cellsR_len] at hjl
        rw [cellsR_at _ hjl] at hj
        cases hj
        exact hm.v j hjl)
      have SZ2 := Lib.hid (show (Try.prog.info? 24).map (·.size) = some (cellsR (doesD f l)).length by rw [cellsR_len]; exact zeroM)
      have E32 := Lib.hid (show zs32.size = (cellsR (doesD f l)).toArray.size by simp [cellsR_len, zs32])
      have SZ3 := Lib.hid (show (Try.prog.info? 24).map (·.size) = some (cellsR (doesD f l)).toArray.size by simp only [List.size_toArray, cellsR_len]; exact zeroM)
      have ONE := Lib.hid (cellsR_one (doesD f l))
      have END := Lib.hid (show Below w.heap.size w (wr.setRow (w.heap.size + 1) (cellsR (doesD f l)).toArray) from ⟨BW.out.os, BW.out.tape, BW.out.output, by have := BW.out.size; simp [World.setRow]; omega, fun i hi => (setRow_other _ _ _ _ (by omega)).trans (BW.out.block i hi)⟩)
      have HR := Lib.hid (setRow_heap wr (w.heap.size + 1) _ (cellsR (doesD f l)).toArray _ _ RB.out)
      obtain ⟨cs, hcs⟩ : ∃ cs, cellsR (doesD f l) = cs := ⟨_, rfl⟩
      rw [hcs] at RG SZ2 E32 SZ3 ONE END HR
      have HCS := Lib.hid hcs
      clear hcs hm hg hsz
      go_wp2_with (first | (refine wpList_load_mid rfl 24 (.tmp 83) rfl (w.heap.size + 1 + 1) 2 rfl cs _ RG.out Try.underlying24 rfl SZ2.out ?_) | (refine wpList_store_row rfl 24 (.tmp 4) (.tmp 84) rfl (w.heap.size + 1) cs.toArray rfl rfl 24 _ RB.out SZ3.out E32.out ONE.out ?_))
      exact bodyPost_ret (v := .agg cs.toArray) (results_cell_row Try.results5 _ _ (w.heap.size + 1) 24 cs.toArray (0, 0) _ rfl HR.out Try.underlying24 rfl SZ3.out) rfl ⟨by rw [HCS.out], END.out⟩
end Go.Proofs.Ytmhkihfbcpmjlaa
