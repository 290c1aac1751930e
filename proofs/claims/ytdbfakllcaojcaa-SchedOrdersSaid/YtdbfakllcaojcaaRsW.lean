/- The document's weights. -/
import Derived.Test.YtdbfakllcaojcaaRsC
import Derived.Test.YtdbfakllcaojcaaRsO0
namespace Go.Proofs.Ytdbfakllcaojcaa
open Go Go.RowKit
set_option linter.unusedVariables false
set_option linter.unusedSimpArgs false
set_option maxRecDepth 100000

def grC (g : GrQ) : List Value := [.int .i64 g.x, .int .i64 g.y, .int .i64 g.z, .slice g.ca g.C.length g.cc, .slice g.na g.ns.length g.nc, .int .i64 g.o]
structure WAt (W : World) (B : Nat) (g : GrQ) (n : Nd) (a s : Sh) : Prop where
  g : RowAt W B (grC g)
  n : RowAt W (B + 1) n.cells
  a : RowAt W (B + 1 + 1) (shC a)
  s : RowAt W (B + 1 + 1 + 1) (shC s)
theorem WAt.over {W W' : World} {B : Nat} {g : GrQ} {n : Nd} {a s : Sh} (h : WAt W B g n a s) (hb : Below W.heap.size W W') : WAt W' B g n a s := ⟨h.g.over hb, h.n.over hb, h.a.over hb, h.s.over hb⟩
theorem WAt.new (w : World) (g : GrQ) (n : Nd) (a s : Sh) : WAt ((((w.alloc (.cells #[.int .i64 g.x, .int .i64 g.y, .int .i64 g.z, .slice g.ca g.C.length g.cc, .slice g.na g.ns.length g.nc, .int .i64 g.o] 26)).alloc (.cells n.cells.toArray 57)).alloc (.cells #[.int .i64 a.x, .int .i64 a.y, .int .i64 a.z] 22)).alloc (.cells #[.int .i64 s.x, .int .i64 s.y, .int .i64 s.z] 22)) w.heap.size g n a s := by
  have al := fun (W : World) (o : Obj) => Below.alloc (Below.refl W.heap.size W) (Nat.le_refl _) o
  have h0 := RowAt.new w (grC g) 26
  have h1 := RowAt.new (w.alloc (.cells (grC g).toArray 26)) n.cells 57
  rw [size_alloc1] at h1
  have h2 := RowAt.new ((w.alloc (.cells (grC g).toArray 26)).alloc (.cells n.cells.toArray 57)) (shC a) 22
  rw [size_alloc1, size_alloc1] at h2
  have h3 := RowAt.new (((w.alloc (.cells (grC g).toArray 26)).alloc (.cells n.cells.toArray 57)).alloc (.cells (shC a).toArray 22)) (shC s) 22
  rw [size_alloc1, size_alloc1, size_alloc1] at h3
  exact ⟨((h0.over (al _ _)).over (al _ _)).over (al _ _), (h1.over (al _ _)).over (al _ _), h2.over (al _ _), h3⟩
theorem WAt.all {W : World} {B : Nat} {g : GrQ} {n : Nd} {a s : Sh} (h : WAt W B g n a s) : W.cell? ⟨B, 0, none⟩ = some (.int .i64 g.x) ∧ W.cell? ⟨B, 1, none⟩ = some (.int .i64 g.y) ∧ W.cell? ⟨B, 2, none⟩ = some (.int .i64 g.z) ∧ W.cell? ⟨B, 3, none⟩ = some (.slice g.ca g.C.length g.cc) ∧ W.cell? ⟨B, 4, none⟩ = some (.slice g.na g.ns.length g.nc) ∧ W.cell? ⟨B, 5, none⟩ = some (.int .i64 g.o) ∧ W.cell? ⟨B + 1, 3, none⟩ = some (.int .i64 n.k0) ∧ W.cell? ⟨B + 1, 4, none⟩ = some (.int .i64 n.k1) ∧ W.cell? ⟨B + 1, 20, none⟩ = some (.int .i64 n.w) ∧ W.cell? ⟨B + 1, 21, none⟩ = some (.int .i64 n.bias) ∧ W.cell? ⟨B + 1, 22, none⟩ = some (.int .i64 n.chans) ∧ W.cell? ⟨B + 1 + 1, 0, none⟩ = some (.int .i64 a.x) ∧ W.cell? ⟨B + 1 + 1, 1, none⟩ = some (.int .i64 a.y) ∧ W.cell? ⟨B + 1 + 1, 2, none⟩ = some (.int .i64 a.z) ∧ W.cell? ⟨B + 1 + 1 + 1, 0, none⟩ = some (.int .i64 s.x) ∧ W.cell? ⟨B + 1 + 1 + 1, 1, none⟩ = some (.int .i64 s.y) ∧ W.cell? ⟨B + 1 + 1 + 1, 2, none⟩ = some (.int .i64 s.z) ∧ B < W.heap.size ∧ B + 1 < W.heap.size ∧ B + 1 + 1 < W.heap.size ∧ B + 1 + 1 + 1 < W.heap.size :=
  ⟨h.g.cell 0 _ rfl, h.g.cell 1 _ rfl, h.g.cell 2 _ rfl, h.g.cell 3 _ rfl, h.g.cell 4 _ rfl, h.g.cell 5 _ rfl, h.n.cell 3 _ rfl, h.n.cell 4 _ rfl, h.n.cell 20 _ rfl, h.n.cell 21 _ rfl, h.n.cell 22 _ rfl, h.a.cell 0 _ rfl, h.a.cell 1 _ rfl, h.a.cell 2 _ rfl, h.s.cell 0 _ rfl, h.s.cell 1 _ rfl, h.s.cell 2 _ rfl, h.g.lt, h.n.lt, h.a.lt, h.s.lt⟩
def RWc (k : Int) : Prop := ∀ (g : GrQ) (n : Nd) (a s : Sh) (w : World), CnsIn w g.ca g.C g.cc → n.op = k → a.good = true → s.good = true → (0 ≤ n.k0 * n.k1 ∧ n.k0 * n.k1 ≤ 64) → (hC n.op = true → 1 ≤ n.chans ∧ n.chans ≤ 64) → (n.op = 3 → s.z = a.z) →
    Calls Try.prog 35 #[g.val, .agg n.cells.toArray, .agg #[.int .i64 a.x, .int .i64 a.y, .int .i64 a.z], .agg #[.int .i64 s.x, .int .i64 s.y, .int .i64 s.z]] w fun e w' => e = .returned (.int .i64 (weightsE (g.C.map CnQ.cn) n a s)) ∧ Below w.heap.size w w'
theorem mul_bd {x y : Int} {p q : Int} (h0 : 0 ≤ x) (h1 : x ≤ p) (g0 : 0 ≤ y) (g1 : y ≤ q) : 0 ≤ x * y ∧ x * y ≤ p * q :=
  ⟨Int.mul_nonneg h0 g0, Int.mul_le_mul h1 g1 g0 (by omega)⟩
set_option maxHeartbeats 8000000 in
theorem rweights_op1 : RWc 1 := by
  intro g n a s w hC ho ha hs hk hch h3
  obtain ⟨gx, gy, gz, ca, cc, C, na, nc, ns, go⟩ := g
  dsimp only at hC ⊢
  obtain ⟨⟨ax0, ax1⟩, ⟨ay0, ay1⟩, ⟨az0, az1⟩⟩ := good_bd ha
  obtain ⟨⟨sx0, sx1⟩, ⟨sy0, sy1⟩, ⟨sz0, sz1⟩⟩ := good_bd hs
  have HWW := Lib.hid (fun W => (show Calls Try.prog 41 #[.int .i64 1, .int .u8 87] W fun e w' => e = .returned (.bool true) ∧ Below W.heap.size W w' from rhas_WW 1 (by decide) (by decide) W))
  have HII := Lib.hid (fun W => (show Calls Try.prog 41 #[.int .i64 1, .int .u8 73] W fun e w' => e = .returned (.bool false) ∧ Below W.heap.size W w' from rhas_II 1 (by decide) (by decide) W))
  have RC := Lib.hid (fun (W : World) (hb : Below w.heap.size w W) (i b m : Int) => rconst ⟨gx, gy, gz, ca, cc, C, na, nc, ns, go⟩ W (hC.later hb) i b m)
  unfold GrQ.val at RC ⊢
  dsimp only at RC ⊢
  have NEW := Lib.hid (WAt.new w ⟨gx, gy, gz, ca, cc, C, na, nc, ns, go⟩ n a s)
  dsimp only at NEW
  have BN : Below w.heap.size w ((((w.alloc (.cells #[.int .i64 gx, .int .i64 gy, .int .i64 gz, .slice ca C.length cc, .slice na ns.length nc, .int .i64 go] 26)).alloc (.cells n.cells.toArray 57)).alloc (.cells #[.int .i64 a.x, .int .i64 a.y, .int .i64 a.z] 22)).alloc (.cells #[.int .i64 s.x, .int .i64 s.y, .int .i64 s.z] 22)) := by go_grown
  have BW := Lib.hid BN
  clear BN hC
  have e0 : n.cells[0]? = some (.int .i64 1) := by rw [← ho]; rfl
  obtain ⟨kk, hkk⟩ : ∃ kk, n.k0 * n.k1 = kk := ⟨_, rfl⟩
  rw [hkk] at hk
  obtain ⟨hk0, hk1⟩ := hk
  have Z1 := Lib.hid (fun W => (show Calls Try.prog 34 #[.agg #[.int .i64 s.x, .int .i64 s.y, .int .i64 s.z]] W fun e w' => e = .returned (.int .i64 s.size) ∧ Below W.heap.size W w' from by have h := rsize_sh s W; rw [size_good hs] at h; exact h))
  have hby : bytesN n a s = s.size := by simp [bytesN, ho]
  obtain ⟨cw, hcw⟩ : ∃ c, c = constE (C.map CnQ.cn) n.w s.size 0 := ⟨_, rfl⟩
  have RCW := Lib.hid (fun (W : World) (hb : Below w.heap.size w W) => RC.out W hb n.w s.size 0)
  rw [← hcw] at RCW
  have HO : weightsE (C.map CnQ.cn) n a s = if cw ≠ 0 then cw else 0 := by
    unfold weightsE
    rw [hby, ho, show (if (1 : Int) = 14 then (256 : Int) else 0) = 0 from rfl, ← hcw, show hW 1 = true from rfl, show hI 1 = false from rfl]
    simp
  rw [HO]
  clear HO hch h3 ha hs ho hby hcw RC
  by_cases hz : cw = 0
  · have hzb : (cw != 0) = false := by simp [hz]
    rw [if_neg (by simp [hz])]
    clear hz
    go_enter Try.func35, Try.ntmps35
    go_upto_region 1 with fail
    have RO := NEW
    clear NEW
    generalize (((w.alloc (.cells #[.int .i64 gx, .int .i64 gy, .int .i64 gz, .slice ca C.length cc, .slice na ns.length nc, .int .i64 go] 26)).alloc (.cells n.cells.toArray 57)).alloc (.cells #[.int .i64 a.x, .int .i64 a.y, .int .i64 a.z] 22)).alloc (.cells #[.int .i64 s.x, .int .i64 s.y, .int .i64 s.z] 22) = W1 at *
    obtain ⟨cg0, cg1, cg2, cg3, cg4, cg5, cn3, cn4, cn20, cn21, cn22, ca0, ca1, ca2, cs0, cs1, cs2, lg, ln, la, ls⟩ := RO.out.all
    have cn0 := RO.out.n.cell 0 _ e0
    go_wp2_with (first | (go_at_call 41; (first | (with_reducible refine (HWW.out _).mono ?_) | (with_reducible refine (HII.out _).mono ?_)); rintro e w9 ⟨rfl, hb9⟩; replace RO := Lib.hid (RO.out.over hb9); replace BW := Lib.hid (below_call BW.out hb9); clear hb9 cn0 cg0 cg1 cg2 cg3 cg4 cg5 cn3 cn4 cn20 cn21 cn22 ca0 ca1 ca2 cs0 cs1 cs2 lg ln la ls; obtain ⟨cg0, cg1, cg2, cg3, cg4, cg5, cn3, cn4, cn20, cn21, cn22, ca0, ca1, ca2, cs0, cs1, cs2, lg, ln, la, ls⟩ := RO.out.all; have cn0 := RO.out.n.cell 0 _ e0) | (go_at_call 34; (first | (with_reducible refine (Z1.out _).mono ?_)); rintro e w9 ⟨rfl, hb9⟩; replace RO := Lib.hid (RO.out.over hb9); replace BW := Lib.hid (below_call BW.out hb9); clear hb9 cn0 cg0 cg1 cg2 cg3 cg4 cg5 cn3 cn4 cn20 cn21 cn22 ca0 ca1 ca2 cs0 cs1 cs2 lg ln la ls; obtain ⟨cg0, cg1, cg2, cg3, cg4, cg5, cn3, cn4, cn20, cn21, cn22, ca0, ca1, ca2, cs0, cs1, cs2, lg, ln, la, ls⟩ := RO.out.all; have cn0 := RO.out.n.cell 0 _ e0) | (go_at_call 54; (first | (with_reducible refine (RCW.out _ BW.out).mono ?_)); rintro e w9 ⟨rfl, hb9⟩; replace RO := Lib.hid (RO.out.over hb9); replace BW := Lib.hid (below_call BW.out hb9); clear hb9 cn0 cg0 cg1 cg2 cg3 cg4 cg5 cn3 cn4 cn20 cn21 cn22 ca0 ca1 ca2 cs0 cs1 cs2 lg ln la ls; obtain ⟨cg0, cg1, cg2, cg3, cg4, cg5, cn3, cn4, cn20, cn21, cn22, ca0, ca1, ca2, cs0, cs1, cs2, lg, ln, la, ls⟩ := RO.out.all; have cn0 := RO.out.n.cell 0 _ e0))
    all_goals (go_ret; exact ⟨rfl, BW.out⟩)
  · have hzb : (cw != 0) = true := by simpa using hz
    rw [if_pos hz]
    clear hz
    go_enter Try.func35, Try.ntmps35
    go_upto_region 1 with fail
    have RO := NEW
    clear NEW
    generalize (((w.alloc (.cells #[.int .i64 gx, .int .i64 gy, .int .i64 gz, .slice ca C.length cc, .slice na ns.length nc, .int .i64 go] 26)).alloc (.cells n.cells.toArray 57)).alloc (.cells #[.int .i64 a.x, .int .i64 a.y, .int .i64 a.z] 22)).alloc (.cells #[.int .i64 s.x, .int .i64 s.y, .int .i64 s.z] 22) = W1 at *
    obtain ⟨cg0, cg1, cg2, cg3, cg4, cg5, cn3, cn4, cn20, cn21, cn22, ca0, ca1, ca2, cs0, cs1, cs2, lg, ln, la, ls⟩ := RO.out.all
    have cn0 := RO.out.n.cell 0 _ e0
    go_wp2_with (first | (go_at_call 41; (first | (with_reducible refine (HWW.out _).mono ?_) | (with_reducible refine (HII.out _).mono ?_)); rintro e w9 ⟨rfl, hb9⟩; replace RO := Lib.hid (RO.out.over hb9); replace BW := Lib.hid (below_call BW.out hb9); clear hb9 cn0 cg0 cg1 cg2 cg3 cg4 cg5 cn3 cn4 cn20 cn21 cn22 ca0 ca1 ca2 cs0 cs1 cs2 lg ln la ls; obtain ⟨cg0, cg1, cg2, cg3, cg4, cg5, cn3, cn4, cn20, cn21, cn22, ca0, ca1, ca2, cs0, cs1, cs2, lg, ln, la, ls⟩ := RO.out.all; have cn0 := RO.out.n.cell 0 _ e0) | (go_at_call 34; (first | (with_reducible refine (Z1.out _).mono ?_)); rintro e w9 ⟨rfl, hb9⟩; replace RO := Lib.hid (RO.out.over hb9); replace BW := Lib.hid (below_call BW.out hb9); clear hb9 cn0 cg0 cg1 cg2 cg3 cg4 cg5 cn3 cn4 cn20 cn21 cn22 ca0 ca1 ca2 cs0 cs1 cs2 lg ln la ls; obtain ⟨cg0, cg1, cg2, cg3, cg4, cg5, cn3, cn4, cn20, cn21, cn22, ca0, ca1, ca2, cs0, cs1, cs2, lg, ln, la, ls⟩ := RO.out.all; have cn0 := RO.out.n.cell 0 _ e0) | (go_at_call 54; (first | (with_reducible refine (RCW.out _ BW.out).mono ?_)); rintro e w9 ⟨rfl, hb9⟩; replace RO := Lib.hid (RO.out.over hb9); replace BW := Lib.hid (below_call BW.out hb9); clear hb9 cn0 cg0 cg1 cg2 cg3 cg4 cg5 cn3 cn4 cn20 cn21 cn22 ca0 ca1 ca2 cs0 cs1 cs2 lg ln la ls; obtain ⟨cg0, cg1, cg2, cg3, cg4, cg5, cn3, cn4, cn20, cn21, cn22, ca0, ca1, ca2, cs0, cs1, cs2, lg, ln, la, ls⟩ := RO.out.all; have cn0 := RO.out.n.cell 0 _ e0))
    all_goals (go_ret; exact ⟨rfl, BW.out⟩)
set_option maxHeartbeats 8000000 in
theorem rweights_op2 : RWc 2 := by
  intro g n a s w hC ho ha hs hk hch h3
  obtain ⟨gx, gy, gz, ca, cc, C, na, nc, ns, go⟩ := g
  dsimp only at hC ⊢
  obtain ⟨⟨ax0, ax1⟩, ⟨ay0, ay1⟩, ⟨az0, az1⟩⟩ := good_bd ha
  obtain ⟨⟨sx0, sx1⟩, ⟨sy0, sy1⟩, ⟨sz0, sz1⟩⟩ := good_bd hs
  have HWW := Lib.hid (fun W => (show Calls Try.prog 41 #[.int .i64 2, .int .u8 87] W fun e w' => e = .returned (.bool true) ∧ Below W.heap.size W w' from rhas_WW 2 (by decide) (by decide) W))
  have HII := Lib.hid (fun W => (show Calls Try.prog 41 #[.int .i64 2, .int .u8 73] W fun e w' => e = .returned (.bool true) ∧ Below W.heap.size W w' from rhas_II 2 (by decide) (by decide) W))
  have RC := Lib.hid (fun (W : World) (hb : Below w.heap.size w W) (i b m : Int) => rconst ⟨gx, gy, gz, ca, cc, C, na, nc, ns, go⟩ W (hC.later hb) i b m)
  unfold GrQ.val at RC ⊢
  dsimp only at RC ⊢
  have NEW := Lib.hid (WAt.new w ⟨gx, gy, gz, ca, cc, C, na, nc, ns, go⟩ n a s)
  dsimp only at NEW
  have BN : Below w.heap.size w ((((w.alloc (.cells #[.int .i64 gx, .int .i64 gy, .int .i64 gz, .slice ca C.length cc, .slice na ns.length nc, .int .i64 go] 26)).alloc (.cells n.cells.toArray 57)).alloc (.cells #[.int .i64 a.x, .int .i64 a.y, .int .i64 a.z] 22)).alloc (.cells #[.int .i64 s.x, .int .i64 s.y, .int .i64 s.z] 22)) := by go_grown
  have BW := Lib.hid BN
  clear BN hC
  have e0 : n.cells[0]? = some (.int .i64 2) := by rw [← ho]; rfl
  obtain ⟨kk, hkk⟩ : ∃ kk, n.k0 * n.k1 = kk := ⟨_, rfl⟩
  rw [hkk] at hk
  obtain ⟨hk0, hk1⟩ := hk
  obtain ⟨hc0, hc1⟩ := hch (by rw [ho]; rfl)
  obtain ⟨b0, b1⟩ := mul_bd (x := n.chans) (y := kk) (p := 64) (q := 64) (by omega) hc1 hk0 hk1
  obtain ⟨pp, hpp⟩ : ∃ p, n.chans * kk = p := ⟨_, rfl⟩
  rw [hpp] at b0 b1
  obtain ⟨b2, b3⟩ := mul_bd (x := pp) (y := a.z) (p := 4096) (q := 64) b0 (by omega) (by omega) az1
  obtain ⟨bb, hbb⟩ : ∃ p, pp * a.z = p := ⟨_, rfl⟩
  rw [hbb] at b2 b3
  have hby : bytesN n a s = bb := by simp only [bytesN, ho, hkk, ← hbb, ← hpp, Int.mul_assoc]; simp
  obtain ⟨cw, hcw⟩ : ∃ c, c = constE (C.map CnQ.cn) n.w bb 0 := ⟨_, rfl⟩
  have RCW := Lib.hid (fun (W : World) (hb : Below w.heap.size w W) => RC.out W hb n.w bb 0)
  rw [← hcw] at RCW
  obtain ⟨ci, hci⟩ : ∃ c, c = constE (C.map CnQ.cn) n.bias 0 s.z := ⟨_, rfl⟩
  have RCI := Lib.hid (fun (W : World) (hb : Below w.heap.size w W) => RC.out W hb n.bias 0 s.z)
  rw [← hci] at RCI
  have HO : weightsE (C.map CnQ.cn) n a s = if cw ≠ 0 then cw else ci := by
    unfold weightsE
    rw [hby, ho, show (if (2 : Int) = 14 then (256 : Int) else 0) = 0 from rfl, ← hcw, show hW 2 = true from rfl, show hI 2 = true from rfl]
    simp [← hci]
  rw [HO]
  clear HO hch h3 ha hs ho hby hcw hci RC
  by_cases hz : cw = 0
  · have hzb : (cw != 0) = false := by simp [hz]
    rw [if_neg (by simp [hz])]
    clear hz
    go_enter Try.func35, Try.ntmps35
    go_upto_region 1 with fail
    have RO := NEW
    clear NEW
    generalize (((w.alloc (.cells #[.int .i64 gx, .int .i64 gy, .int .i64 gz, .slice ca C.length cc, .slice na ns.length nc, .int .i64 go] 26)).alloc (.cells n.cells.toArray 57)).alloc (.cells #[.int .i64 a.x, .int .i64 a.y, .int .i64 a.z] 22)).alloc (.cells #[.int .i64 s.x, .int .i64 s.y, .int .i64 s.z] 22) = W1 at *
    obtain ⟨cg0, cg1, cg2, cg3, cg4, cg5, cn3, cn4, cn20, cn21, cn22, ca0, ca1, ca2, cs0, cs1, cs2, lg, ln, la, ls⟩ := RO.out.all
    have cn0 := RO.out.n.cell 0 _ e0
    go_wp2_with (first | (go_at_call 41; (first | (with_reducible refine (HWW.out _).mono ?_) | (with_reducible refine (HII.out _).mono ?_)); rintro e w9 ⟨rfl, hb9⟩; replace RO := Lib.hid (RO.out.over hb9); replace BW := Lib.hid (below_call BW.out hb9); clear hb9 cn0 cg0 cg1 cg2 cg3 cg4 cg5 cn3 cn4 cn20 cn21 cn22 ca0 ca1 ca2 cs0 cs1 cs2 lg ln la ls; obtain ⟨cg0, cg1, cg2, cg3, cg4, cg5, cn3, cn4, cn20, cn21, cn22, ca0, ca1, ca2, cs0, cs1, cs2, lg, ln, la, ls⟩ := RO.out.all; have cn0 := RO.out.n.cell 0 _ e0) | (go_at_call 54; (first | (with_reducible refine (RCW.out _ BW.out).mono ?_) | (with_reducible refine (RCI.out _ BW.out).mono ?_)); rintro e w9 ⟨rfl, hb9⟩; replace RO := Lib.hid (RO.out.over hb9); replace BW := Lib.hid (below_call BW.out hb9); clear hb9 cn0 cg0 cg1 cg2 cg3 cg4 cg5 cn3 cn4 cn20 cn21 cn22 ca0 ca1 ca2 cs0 cs1 cs2 lg ln la ls; obtain ⟨cg0, cg1, cg2, cg3, cg4, cg5, cn3, cn4, cn20, cn21, cn22, ca0, ca1, ca2, cs0, cs1, cs2, lg, ln, la, ls⟩ := RO.out.all; have cn0 := RO.out.n.cell 0 _ e0))
    all_goals (go_ret; exact ⟨rfl, BW.out⟩)
  · have hzb : (cw != 0) = true := by simpa using hz
    rw [if_pos hz]
    clear hz
    go_enter Try.func35, Try.ntmps35
    go_upto_region 1 with fail
    have RO := NEW
    clear NEW
    generalize (((w.alloc (.cells #[.int .i64 gx, .int .i64 gy, .int .i64 gz, .slice ca C.length cc, .slice na ns.length nc, .int .i64 go] 26)).alloc (.cells n.cells.toArray 57)).alloc (.cells #[.int .i64 a.x, .int .i64 a.y, .int .i64 a.z] 22)).alloc (.cells #[.int .i64 s.x, .int .i64 s.y, .int .i64 s.z] 22) = W1 at *
    obtain ⟨cg0, cg1, cg2, cg3, cg4, cg5, cn3, cn4, cn20, cn21, cn22, ca0, ca1, ca2, cs0, cs1, cs2, lg, ln, la, ls⟩ := RO.out.all
    have cn0 := RO.out.n.cell 0 _ e0
    go_wp2_with (first | (go_at_call 41; (first | (with_reducible refine (HWW.out _).mono ?_) | (with_reducible refine (HII.out _).mono ?_)); rintro e w9 ⟨rfl, hb9⟩; replace RO := Lib.hid (RO.out.over hb9); replace BW := Lib.hid (below_call BW.out hb9); clear hb9 cn0 cg0 cg1 cg2 cg3 cg4 cg5 cn3 cn4 cn20 cn21 cn22 ca0 ca1 ca2 cs0 cs1 cs2 lg ln la ls; obtain ⟨cg0, cg1, cg2, cg3, cg4, cg5, cn3, cn4, cn20, cn21, cn22, ca0, ca1, ca2, cs0, cs1, cs2, lg, ln, la, ls⟩ := RO.out.all; have cn0 := RO.out.n.cell 0 _ e0) | (go_at_call 54; (first | (with_reducible refine (RCW.out _ BW.out).mono ?_) | (with_reducible refine (RCI.out _ BW.out).mono ?_)); rintro e w9 ⟨rfl, hb9⟩; replace RO := Lib.hid (RO.out.over hb9); replace BW := Lib.hid (below_call BW.out hb9); clear hb9 cn0 cg0 cg1 cg2 cg3 cg4 cg5 cn3 cn4 cn20 cn21 cn22 ca0 ca1 ca2 cs0 cs1 cs2 lg ln la ls; obtain ⟨cg0, cg1, cg2, cg3, cg4, cg5, cn3, cn4, cn20, cn21, cn22, ca0, ca1, ca2, cs0, cs1, cs2, lg, ln, la, ls⟩ := RO.out.all; have cn0 := RO.out.n.cell 0 _ e0))
    all_goals (go_ret; exact ⟨rfl, BW.out⟩)
set_option maxHeartbeats 8000000 in
theorem rweights_op3 : RWc 3 := by
  intro g n a s w hC ho ha hs hk hch h3
  obtain ⟨gx, gy, gz, ca, cc, C, na, nc, ns, go⟩ := g
  dsimp only at hC ⊢
  obtain ⟨⟨ax0, ax1⟩, ⟨ay0, ay1⟩, ⟨az0, az1⟩⟩ := good_bd ha
  obtain ⟨⟨sx0, sx1⟩, ⟨sy0, sy1⟩, ⟨sz0, sz1⟩⟩ := good_bd hs
  have HWW := Lib.hid (fun W => (show Calls Try.prog 41 #[.int .i64 3, .int .u8 87] W fun e w' => e = .returned (.bool true) ∧ Below W.heap.size W w' from rhas_WW 3 (by decide) (by decide) W))
  have HII := Lib.hid (fun W => (show Calls Try.prog 41 #[.int .i64 3, .int .u8 73] W fun e w' => e = .returned (.bool true) ∧ Below W.heap.size W w' from rhas_II 3 (by decide) (by decide) W))
  have RC := Lib.hid (fun (W : World) (hb : Below w.heap.size w W) (i b m : Int) => rconst ⟨gx, gy, gz, ca, cc, C, na, nc, ns, go⟩ W (hC.later hb) i b m)
  unfold GrQ.val at RC ⊢
  dsimp only at RC ⊢
  have NEW := Lib.hid (WAt.new w ⟨gx, gy, gz, ca, cc, C, na, nc, ns, go⟩ n a s)
  dsimp only at NEW
  have BN : Below w.heap.size w ((((w.alloc (.cells #[.int .i64 gx, .int .i64 gy, .int .i64 gz, .slice ca C.length cc, .slice na ns.length nc, .int .i64 go] 26)).alloc (.cells n.cells.toArray 57)).alloc (.cells #[.int .i64 a.x, .int .i64 a.y, .int .i64 a.z] 22)).alloc (.cells #[.int .i64 s.x, .int .i64 s.y, .int .i64 s.z] 22)) := by go_grown
  have BW := Lib.hid BN
  clear BN hC
  have e0 : n.cells[0]? = some (.int .i64 3) := by rw [← ho]; rfl
  obtain ⟨kk, hkk⟩ : ∃ kk, n.k0 * n.k1 = kk := ⟨_, rfl⟩
  rw [hkk] at hk
  obtain ⟨hk0, hk1⟩ := hk
  have hz := h3 ho
  obtain ⟨b2, b3⟩ := mul_bd (x := kk) (y := s.z) (p := 64) (q := 64) hk0 hk1 (by omega) sz1
  obtain ⟨bb, hbb⟩ : ∃ p, kk * s.z = p := ⟨_, rfl⟩
  rw [hbb] at b2 b3
  have hby : bytesN n a s = bb := by simp only [bytesN, ho, hkk, ← hz, hbb]; simp
  clear hz
  obtain ⟨cw, hcw⟩ : ∃ c, c = constE (C.map CnQ.cn) n.w bb 0 := ⟨_, rfl⟩
  have RCW := Lib.hid (fun (W : World) (hb : Below w.heap.size w W) => RC.out W hb n.w bb 0)
  rw [← hcw] at RCW
  obtain ⟨ci, hci⟩ : ∃ c, c = constE (C.map CnQ.cn) n.bias 0 s.z := ⟨_, rfl⟩
  have RCI := Lib.hid (fun (W : World) (hb : Below w.heap.size w W) => RC.out W hb n.bias 0 s.z)
  rw [← hci] at RCI
  have HO : weightsE (C.map CnQ.cn) n a s = if cw ≠ 0 then cw else ci := by
    unfold weightsE
    rw [hby, ho, show (if (3 : Int) = 14 then (256 : Int) else 0) = 0 from rfl, ← hcw, show hW 3 = true from rfl, show hI 3 = true from rfl]
    simp [← hci]
  rw [HO]
  clear HO hch h3 ha hs ho hby hcw hci RC
  by_cases hz : cw = 0
  · have hzb : (cw != 0) = false := by simp [hz]
    rw [if_neg (by simp [hz])]
    clear hz
    go_enter Try.func35, Try.ntmps35
    go_upto_region 1 with fail
    have RO := NEW
    clear NEW
    generalize (((w.alloc (.cells #[.int .i64 gx, .int .i64 gy, .int .i64 gz, .slice ca C.length cc, .slice na ns.length nc, .int .i64 go] 26)).alloc (.cells n.cells.toArray 57)).alloc (.cells #[.int .i64 a.x, .int .i64 a.y, .int .i64 a.z] 22)).alloc (.cells #[.int .i64 s.x, .int .i64 s.y, .int .i64 s.z] 22) = W1 at *
    obtain ⟨cg0, cg1, cg2, cg3, cg4, cg5, cn3, cn4, cn20, cn21, cn22, ca0, ca1, ca2, cs0, cs1, cs2, lg, ln, la, ls⟩ := RO.out.all
    have cn0 := RO.out.n.cell 0 _ e0
    go_wp2_with (first | (go_at_call 41; (first | (with_reducible refine (HWW.out _).mono ?_) | (with_reducible refine (HII.out _).mono ?_)); rintro e w9 ⟨rfl, hb9⟩; replace RO := Lib.hid (RO.out.over hb9); replace BW := Lib.hid (below_call BW.out hb9); clear hb9 cn0 cg0 cg1 cg2 cg3 cg4 cg5 cn3 cn4 cn20 cn21 cn22 ca0 ca1 ca2 cs0 cs1 cs2 lg ln la ls; obtain ⟨cg0, cg1, cg2, cg3, cg4, cg5, cn3, cn4, cn20, cn21, cn22, ca0, ca1, ca2, cs0, cs1, cs2, lg, ln, la, ls⟩ := RO.out.all; have cn0 := RO.out.n.cell 0 _ e0) | (go_at_call 54; (first | (with_reducible refine (RCW.out _ BW.out).mono ?_) | (with_reducible refine (RCI.out _ BW.out).mono ?_)); rintro e w9 ⟨rfl, hb9⟩; replace RO := Lib.hid (RO.out.over hb9); replace BW := Lib.hid (below_call BW.out hb9); clear hb9 cn0 cg0 cg1 cg2 cg3 cg4 cg5 cn3 cn4 cn20 cn21 cn22 ca0 ca1 ca2 cs0 cs1 cs2 lg ln la ls; obtain ⟨cg0, cg1, cg2, cg3, cg4, cg5, cn3, cn4, cn20, cn21, cn22, ca0, ca1, ca2, cs0, cs1, cs2, lg, ln, la, ls⟩ := RO.out.all; have cn0 := RO.out.n.cell 0 _ e0))
    all_goals (go_ret; exact ⟨rfl, BW.out⟩)
  · have hzb : (cw != 0) = true := by simpa using hz
    rw [if_pos hz]
    clear hz
    go_enter Try.func35, Try.ntmps35
    go_upto_region 1 with fail
    have RO := NEW
    clear NEW
    generalize (((w.alloc (.cells #[.int .i64 gx, .int .i64 gy, .int .i64 gz, .slice ca C.length cc, .slice na ns.length nc, .int .i64 go] 26)).alloc (.cells n.cells.toArray 57)).alloc (.cells #[.int .i64 a.x, .int .i64 a.y, .int .i64 a.z] 22)).alloc (.cells #[.int .i64 s.x, .int .i64 s.y, .int .i64 s.z] 22) = W1 at *
    obtain ⟨cg0, cg1, cg2, cg3, cg4, cg5, cn3, cn4, cn20, cn21, cn22, ca0, ca1, ca2, cs0, cs1, cs2, lg, ln, la, ls⟩ := RO.out.all
    have cn0 := RO.out.n.cell 0 _ e0
    go_wp2_with (first | (go_at_call 41; (first | (with_reducible refine (HWW.out _).mono ?_) | (with_reducible refine (HII.out _).mono ?_)); rintro e w9 ⟨rfl, hb9⟩; replace RO := Lib.hid (RO.out.over hb9); replace BW := Lib.hid (below_call BW.out hb9); clear hb9 cn0 cg0 cg1 cg2 cg3 cg4 cg5 cn3 cn4 cn20 cn21 cn22 ca0 ca1 ca2 cs0 cs1 cs2 lg ln la ls; obtain ⟨cg0, cg1, cg2, cg3, cg4, cg5, cn3, cn4, cn20, cn21, cn22, ca0, ca1, ca2, cs0, cs1, cs2, lg, ln, la, ls⟩ := RO.out.all; have cn0 := RO.out.n.cell 0 _ e0) | (go_at_call 54; (first | (with_reducible refine (RCW.out _ BW.out).mono ?_) | (with_reducible refine (RCI.out _ BW.out).mono ?_)); rintro e w9 ⟨rfl, hb9⟩; replace RO := Lib.hid (RO.out.over hb9); replace BW := Lib.hid (below_call BW.out hb9); clear hb9 cn0 cg0 cg1 cg2 cg3 cg4 cg5 cn3 cn4 cn20 cn21 cn22 ca0 ca1 ca2 cs0 cs1 cs2 lg ln la ls; obtain ⟨cg0, cg1, cg2, cg3, cg4, cg5, cn3, cn4, cn20, cn21, cn22, ca0, ca1, ca2, cs0, cs1, cs2, lg, ln, la, ls⟩ := RO.out.all; have cn0 := RO.out.n.cell 0 _ e0))
    all_goals (go_ret; exact ⟨rfl, BW.out⟩)
set_option maxHeartbeats 8000000 in
theorem rweights_op4 : RWc 4 := by
  intro g n a s w hC ho ha hs hk hch h3
  obtain ⟨gx, gy, gz, ca, cc, C, na, nc, ns, go⟩ := g
  dsimp only at hC ⊢
  obtain ⟨⟨ax0, ax1⟩, ⟨ay0, ay1⟩, ⟨az0, az1⟩⟩ := good_bd ha
  obtain ⟨⟨sx0, sx1⟩, ⟨sy0, sy1⟩, ⟨sz0, sz1⟩⟩ := good_bd hs
  have HWW := Lib.hid (fun W => (show Calls Try.prog 41 #[.int .i64 4, .int .u8 87] W fun e w' => e = .returned (.bool true) ∧ Below W.heap.size W w' from rhas_WW 4 (by decide) (by decide) W))
  have HII := Lib.hid (fun W => (show Calls Try.prog 41 #[.int .i64 4, .int .u8 73] W fun e w' => e = .returned (.bool true) ∧ Below W.heap.size W w' from rhas_II 4 (by decide) (by decide) W))
  have RC := Lib.hid (fun (W : World) (hb : Below w.heap.size w W) (i b m : Int) => rconst ⟨gx, gy, gz, ca, cc, C, na, nc, ns, go⟩ W (hC.later hb) i b m)
  unfold GrQ.val at RC ⊢
  dsimp only at RC ⊢
  have NEW := Lib.hid (WAt.new w ⟨gx, gy, gz, ca, cc, C, na, nc, ns, go⟩ n a s)
  dsimp only at NEW
  have BN : Below w.heap.size w ((((w.alloc (.cells #[.int .i64 gx, .int .i64 gy, .int .i64 gz, .slice ca C.length cc, .slice na ns.length nc, .int .i64 go] 26)).alloc (.cells n.cells.toArray 57)).alloc (.cells #[.int .i64 a.x, .int .i64 a.y, .int .i64 a.z] 22)).alloc (.cells #[.int .i64 s.x, .int .i64 s.y, .int .i64 s.z] 22)) := by go_grown
  have BW := Lib.hid BN
  clear BN hC
  have e0 : n.cells[0]? = some (.int .i64 4) := by rw [← ho]; rfl
  obtain ⟨kk, hkk⟩ : ∃ kk, n.k0 * n.k1 = kk := ⟨_, rfl⟩
  rw [hkk] at hk
  obtain ⟨hk0, hk1⟩ := hk
  obtain ⟨hc0, hc1⟩ := hch (by rw [ho]; rfl)
  have hsz : 0 ≤ a.size ∧ a.size ≤ 16384 := by
    have h := ha
    unfold Sh.good at h
    have h := of_decide_eq_true h
    exact ⟨Int.mul_nonneg (Int.mul_nonneg (by omega) (by omega)) (by omega), h.2.2.2.2.2.2⟩
  have Z1 := Lib.hid (fun W => (show Calls Try.prog 34 #[.agg #[.int .i64 a.x, .int .i64 a.y, .int .i64 a.z]] W fun e w' => e = .returned (.int .i64 a.size) ∧ Below W.heap.size W w' from by have h := rsize_sh a W; rw [size_good ha] at h; exact h))
  obtain ⟨b2, b3⟩ := mul_bd (x := n.chans) (y := a.size) (p := 64) (q := 16384) (by omega) hc1 hsz.1 hsz.2
  obtain ⟨bb, hbb⟩ : ∃ p, n.chans * a.size = p := ⟨_, rfl⟩
  rw [hbb] at b2 b3
  have hby : bytesN n a s = bb := by simp only [bytesN, ho, hbb]; simp
  obtain ⟨hsz0, hsz1⟩ := hsz
  obtain ⟨cw, hcw⟩ : ∃ c, c = constE (C.map CnQ.cn) n.w bb 0 := ⟨_, rfl⟩
  have RCW := Lib.hid (fun (W : World) (hb : Below w.heap.size w W) => RC.out W hb n.w bb 0)
  rw [← hcw] at RCW
  obtain ⟨ci, hci⟩ : ∃ c, c = constE (C.map CnQ.cn) n.bias 0 s.z := ⟨_, rfl⟩
  have RCI := Lib.hid (fun (W : World) (hb : Below w.heap.size w W) => RC.out W hb n.bias 0 s.z)
  rw [← hci] at RCI
  have HO : weightsE (C.map CnQ.cn) n a s = if cw ≠ 0 then cw else ci := by
    unfold weightsE
    rw [hby, ho, show (if (4 : Int) = 14 then (256 : Int) else 0) = 0 from rfl, ← hcw, show hW 4 = true from rfl, show hI 4 = true from rfl]
    simp [← hci]
  rw [HO]
  clear HO hch h3 ha hs ho hby hcw hci RC
  by_cases hz : cw = 0
  · have hzb : (cw != 0) = false := by simp [hz]
    rw [if_neg (by simp [hz])]
    clear hz
    go_enter Try.func35, Try.ntmps35
    go_upto_region 1 with fail
    have RO := NEW
    clear NEW
    generalize (((w.alloc (.cells #[.int .i64 gx, .int .i64 gy, .int .i64 gz, .slice ca C.length cc, .slice na ns.length nc, .int .i64 go] 26)).alloc (.cells n.cells.toArray 57)).alloc (.cells #[.int .i64 a.x, .int .i64 a.y, .int .i64 a.z] 22)).alloc (.cells #[.int .i64 s.x, .int .i64 s.y, .int .i64 s.z] 22) = W1 at *
    obtain ⟨cg0, cg1, cg2, cg3, cg4, cg5, cn3, cn4, cn20, cn21, cn22, ca0, ca1, ca2, cs0, cs1, cs2, lg, ln, la, ls⟩ := RO.out.all
    have cn0 := RO.out.n.cell 0 _ e0
    go_upto_region 10 with fail
    have PS := Lib.hid (show ∀ W', Below W1.heap.size W1 W' → (fun w' => w'.cell? ⟨w.heap.size + 1, 22, none⟩ = some (.int .i64 n.chans) ∧ w'.cell? ⟨w.heap.size + 1 + 1, 0, none⟩ = some (.int .i64 a.x) ∧ w'.cell? ⟨w.heap.size + 1 + 1, 1, none⟩ = some (.int .i64 a.y) ∧ w'.cell? ⟨w.heap.size + 1 + 1, 2, none⟩ = some (.int .i64 a.z) ∧ Below W1.heap.size W1 w') W' from fun W' hb => ⟨(RO.out.over hb).n.cell 22 _ rfl, (RO.out.over hb).a.cell 0 _ rfl, (RO.out.over hb).a.cell 1 _ rfl, (RO.out.over hb).a.cell 2 _ rfl, hb⟩)
    clear cn0 cg0 cg1 cg2 cg3 cg4 cg5 cn3 cn4 cn20 cn21 cn22 ca0 ca1 ca2 cs0 cs1 cs2 lg ln la ls
    have hbx : IntKind.i64.wrap bb = bb := by simp [IntKind.wrap, IntKind.signed, IntKind.bits]; omega
    go_region_held3 (fun w' => w'.cell? ⟨w.heap.size + 1, 22, none⟩ = some (.int .i64 n.chans) ∧ w'.cell? ⟨w.heap.size + 1 + 1, 0, none⟩ = some (.int .i64 a.x) ∧ w'.cell? ⟨w.heap.size + 1 + 1, 1, none⟩ = some (.int .i64 a.y) ∧ w'.cell? ⟨w.heap.size + 1 + 1, 2, none⟩ = some (.int .i64 a.z) ∧ Below W1.heap.size W1 w')
      (first | (with_reducible assumption) | (refine PS.out _ ?_; first | (with_reducible exact Below.refl _ _) | (with_reducible exact (Below.refl _ _).drew) | (with_reducible exact hB2) | (with_reducible exact hB2.drew)))
      (first | (go_at_call 34; (with_reducible refine (Z1.out _).mono ?_); rintro e w2 ⟨rfl, hb2⟩; (first | (have hB2 := below_call (Below.refl W1.heap.size W1) hb2) | (have hB2 := below_call (Below.refl W1.heap.size W1).drew hb2))))
    all_goals (have hBe := (‹_ ∧ _ ∧ _ ∧ _ ∧ Below W1.heap.size W1 _›).2.2.2.2; replace RO := Lib.hid (RO.out.over hBe); replace BW := Lib.hid (below_call BW.out hBe); clear hBe PS; obtain ⟨cg0, cg1, cg2, cg3, cg4, cg5, cn3, cn4, cn20, cn21, cn22, ca0, ca1, ca2, cs0, cs1, cs2, lg, ln, la, ls⟩ := RO.out.all; have cn0 := RO.out.n.cell 0 _ e0; go_wp2_with (first | (go_at_call 41; (first | (with_reducible refine (HWW.out _).mono ?_) | (with_reducible refine (HII.out _).mono ?_)); rintro e w9 ⟨rfl, hb9⟩; replace RO := Lib.hid (RO.out.over hb9); replace BW := Lib.hid (below_call BW.out hb9); clear hb9 cn0 cg0 cg1 cg2 cg3 cg4 cg5 cn3 cn4 cn20 cn21 cn22 ca0 ca1 ca2 cs0 cs1 cs2 lg ln la ls; obtain ⟨cg0, cg1, cg2, cg3, cg4, cg5, cn3, cn4, cn20, cn21, cn22, ca0, ca1, ca2, cs0, cs1, cs2, lg, ln, la, ls⟩ := RO.out.all; have cn0 := RO.out.n.cell 0 _ e0) | (go_at_call 54; (first | (with_reducible refine (RCW.out _ BW.out).mono ?_) | (with_reducible refine (RCI.out _ BW.out).mono ?_)); rintro e w9 ⟨rfl, hb9⟩; replace RO := Lib.hid (RO.out.over hb9); replace BW := Lib.hid (below_call BW.out hb9); clear hb9 cn0 cg0 cg1 cg2 cg3 cg4 cg5 cn3 cn4 cn20 cn21 cn22 ca0 ca1 ca2 cs0 cs1 cs2 lg ln la ls; obtain ⟨cg0, cg1, cg2, cg3, cg4, cg5, cn3, cn4, cn20, cn21, cn22, ca0, ca1, ca2, cs0, cs1, cs2, lg, ln, la, ls⟩ := RO.out.all; have cn0 := RO.out.n.cell 0 _ e0)))
    all_goals (go_ret; exact ⟨rfl, BW.out⟩)
  · have hzb : (cw != 0) = true := by simpa using hz
    rw [if_pos hz]
    clear hz
    go_enter Try.func35, Try.ntmps35
    go_upto_region 1 with fail
    have RO := NEW
    clear NEW
    generalize (((w.alloc (.cells #[.int .i64 gx, .int .i64 gy, .int .i64 gz, .slice ca C.length cc, .slice na ns.length nc, .int .i64 go] 26)).alloc (.cells n.cells.toArray 57)).alloc (.cells #[.int .i64 a.x, .int .i64 a.y, .int .i64 a.z] 22)).alloc (.cells #[.int .i64 s.x, .int .i64 s.y, .int .i64 s.z] 22) = W1 at *
    obtain ⟨cg0, cg1, cg2, cg3, cg4, cg5, cn3, cn4, cn20, cn21, cn22, ca0, ca1, ca2, cs0, cs1, cs2, lg, ln, la, ls⟩ := RO.out.all
    have cn0 := RO.out.n.cell 0 _ e0
    go_upto_region 10 with fail
    have PS := Lib.hid (show ∀ W', Below W1.heap.size W1 W' → (fun w' => w'.cell? ⟨w.heap.size + 1, 22, none⟩ = some (.int .i64 n.chans) ∧ w'.cell? ⟨w.heap.size + 1 + 1, 0, none⟩ = some (.int .i64 a.x) ∧ w'.cell? ⟨w.heap.size + 1 + 1, 1, none⟩ = some (.int .i64 a.y) ∧ w'.cell? ⟨w.heap.size + 1 + 1, 2, none⟩ = some (.int .i64 a.z) ∧ Below W1.heap.size W1 w') W' from fun W' hb => ⟨(RO.out.over hb).n.cell 22 _ rfl, (RO.out.over hb).a.cell 0 _ rfl, (RO.out.over hb).a.cell 1 _ rfl, (RO.out.over hb).a.cell 2 _ rfl, hb⟩)
    clear cn0 cg0 cg1 cg2 cg3 cg4 cg5 cn3 cn4 cn20 cn21 cn22 ca0 ca1 ca2 cs0 cs1 cs2 lg ln la ls
    have hbx : IntKind.i64.wrap bb = bb := by simp [IntKind.wrap, IntKind.signed, IntKind.bits]; omega
    go_region_held3 (fun w' => w'.cell? ⟨w.heap.size + 1, 22, none⟩ = some (.int .i64 n.chans) ∧ w'.cell? ⟨w.heap.size + 1 + 1, 0, none⟩ = some (.int .i64 a.x) ∧ w'.cell? ⟨w.heap.size + 1 + 1, 1, none⟩ = some (.int .i64 a.y) ∧ w'.cell? ⟨w.heap.size + 1 + 1, 2, none⟩ = some (.int .i64 a.z) ∧ Below W1.heap.size W1 w')
      (first | (with_reducible assumption) | (refine PS.out _ ?_; first | (with_reducible exact Below.refl _ _) | (with_reducible exact (Below.refl _ _).drew) | (with_reducible exact hB2) | (with_reducible exact hB2.drew)))
      (first | (go_at_call 34; (with_reducible refine (Z1.out _).mono ?_); rintro e w2 ⟨rfl, hb2⟩; (first | (have hB2 := below_call (Below.refl W1.heap.size W1) hb2) | (have hB2 := below_call (Below.refl W1.heap.size W1).drew hb2))))
    all_goals (have hBe := (‹_ ∧ _ ∧ _ ∧ _ ∧ Below W1.heap.size W1 _›).2.2.2.2; replace RO := Lib.hid (RO.out.over hBe); replace BW := Lib.hid (below_call BW.out hBe); clear hBe PS; obtain ⟨cg0, cg1, cg2, cg3, cg4, cg5, cn3, cn4, cn20, cn21, cn22, ca0, ca1, ca2, cs0, cs1, cs2, lg, ln, la, ls⟩ := RO.out.all; have cn0 := RO.out.n.cell 0 _ e0; go_wp2_with (first | (go_at_call 41; (first | (with_reducible refine (HWW.out _).mono ?_) | (with_reducible refine (HII.out _).mono ?_)); rintro e w9 ⟨rfl, hb9⟩; replace RO := Lib.hid (RO.out.over hb9); replace BW := Lib.hid (below_call BW.out hb9); clear hb9 cn0 cg0 cg1 cg2 cg3 cg4 cg5 cn3 cn4 cn20 cn21 cn22 ca0 ca1 ca2 cs0 cs1 cs2 lg ln la ls; obtain ⟨cg0, cg1, cg2, cg3, cg4, cg5, cn3, cn4, cn20, cn21, cn22, ca0, ca1, ca2, cs0, cs1, cs2, lg, ln, la, ls⟩ := RO.out.all; have cn0 := RO.out.n.cell 0 _ e0) | (go_at_call 54; (first | (with_reducible refine (RCW.out _ BW.out).mono ?_) | (with_reducible refine (RCI.out _ BW.out).mono ?_)); rintro e w9 ⟨rfl, hb9⟩; replace RO := Lib.hid (RO.out.over hb9); replace BW := Lib.hid (below_call BW.out hb9); clear hb9 cn0 cg0 cg1 cg2 cg3 cg4 cg5 cn3 cn4 cn20 cn21 cn22 ca0 ca1 ca2 cs0 cs1 cs2 lg ln la ls; obtain ⟨cg0, cg1, cg2, cg3, cg4, cg5, cn3, cn4, cn20, cn21, cn22, ca0, ca1, ca2, cs0, cs1, cs2, lg, ln, la, ls⟩ := RO.out.all; have cn0 := RO.out.n.cell 0 _ e0)))
    all_goals (go_ret; exact ⟨rfl, BW.out⟩)
set_option maxHeartbeats 8000000 in
theorem rweights_op14 : RWc 14 := by
  intro g n a s w hC ho ha hs hk hch h3
  obtain ⟨gx, gy, gz, ca, cc, C, na, nc, ns, go⟩ := g
  dsimp only at hC ⊢
  obtain ⟨⟨ax0, ax1⟩, ⟨ay0, ay1⟩, ⟨az0, az1⟩⟩ := good_bd ha
  obtain ⟨⟨sx0, sx1⟩, ⟨sy0, sy1⟩, ⟨sz0, sz1⟩⟩ := good_bd hs
  have HWW := Lib.hid (fun W => (show Calls Try.prog 41 #[.int .i64 14, .int .u8 87] W fun e w' => e = .returned (.bool true) ∧ Below W.heap.size W w' from rhas_WW 14 (by decide) (by decide) W))
  have HII := Lib.hid (fun W => (show Calls Try.prog 41 #[.int .i64 14, .int .u8 73] W fun e w' => e = .returned (.bool false) ∧ Below W.heap.size W w' from rhas_II 14 (by decide) (by decide) W))
  have RC := Lib.hid (fun (W : World) (hb : Below w.heap.size w W) (i b m : Int) => rconst ⟨gx, gy, gz, ca, cc, C, na, nc, ns, go⟩ W (hC.later hb) i b m)
  unfold GrQ.val at RC ⊢
  dsimp only at RC ⊢
  have NEW := Lib.hid (WAt.new w ⟨gx, gy, gz, ca, cc, C, na, nc, ns, go⟩ n a s)
  dsimp only at NEW
  have BN : Below w.heap.size w ((((w.alloc (.cells #[.int .i64 gx, .int .i64 gy, .int .i64 gz, .slice ca C.length cc, .slice na ns.length nc, .int .i64 go] 26)).alloc (.cells n.cells.toArray 57)).alloc (.cells #[.int .i64 a.x, .int .i64 a.y, .int .i64 a.z] 22)).alloc (.cells #[.int .i64 s.x, .int .i64 s.y, .int .i64 s.z] 22)) := by go_grown
  have BW := Lib.hid BN
  clear BN hC
  have e0 : n.cells[0]? = some (.int .i64 14) := by rw [← ho]; rfl
  obtain ⟨kk, hkk⟩ : ∃ kk, n.k0 * n.k1 = kk := ⟨_, rfl⟩
  rw [hkk] at hk
  obtain ⟨hk0, hk1⟩ := hk
  have hby : bytesN n a s = 0 := by simp [bytesN, ho]
  obtain ⟨cw, hcw⟩ : ∃ c, c = constE (C.map CnQ.cn) n.w 0 256 := ⟨_, rfl⟩
  have RCW := Lib.hid (fun (W : World) (hb : Below w.heap.size w W) => RC.out W hb n.w 0 256)
  rw [← hcw] at RCW
  have HO : weightsE (C.map CnQ.cn) n a s = if cw ≠ 0 then cw else 0 := by
    unfold weightsE
    rw [hby, ho, show (if (14 : Int) = 14 then (256 : Int) else 0) = 256 from rfl, ← hcw, show hW 14 = true from rfl, show hI 14 = false from rfl]
    simp
  rw [HO]
  clear HO hch h3 ha hs ho hby hcw RC
  by_cases hz : cw = 0
  · have hzb : (cw != 0) = false := by simp [hz]
    rw [if_neg (by simp [hz])]
    clear hz
    go_enter Try.func35, Try.ntmps35
    go_upto_region 1 with fail
    have RO := NEW
    clear NEW
    generalize (((w.alloc (.cells #[.int .i64 gx, .int .i64 gy, .int .i64 gz, .slice ca C.length cc, .slice na ns.length nc, .int .i64 go] 26)).alloc (.cells n.cells.toArray 57)).alloc (.cells #[.int .i64 a.x, .int .i64 a.y, .int .i64 a.z] 22)).alloc (.cells #[.int .i64 s.x, .int .i64 s.y, .int .i64 s.z] 22) = W1 at *
    obtain ⟨cg0, cg1, cg2, cg3, cg4, cg5, cn3, cn4, cn20, cn21, cn22, ca0, ca1, ca2, cs0, cs1, cs2, lg, ln, la, ls⟩ := RO.out.all
    have cn0 := RO.out.n.cell 0 _ e0
    go_wp2_with (first | (go_at_call 41; (first | (with_reducible refine (HWW.out _).mono ?_) | (with_reducible refine (HII.out _).mono ?_)); rintro e w9 ⟨rfl, hb9⟩; replace RO := Lib.hid (RO.out.over hb9); replace BW := Lib.hid (below_call BW.out hb9); clear hb9 cn0 cg0 cg1 cg2 cg3 cg4 cg5 cn3 cn4 cn20 cn21 cn22 ca0 ca1 ca2 cs0 cs1 cs2 lg ln la ls; obtain ⟨cg0, cg1, cg2, cg3, cg4, cg5, cn3, cn4, cn20, cn21, cn22, ca0, ca1, ca2, cs0, cs1, cs2, lg, ln, la, ls⟩ := RO.out.all; have cn0 := RO.out.n.cell 0 _ e0) | (go_at_call 54; (first | (with_reducible refine (RCW.out _ BW.out).mono ?_)); rintro e w9 ⟨rfl, hb9⟩; replace RO := Lib.hid (RO.out.over hb9); replace BW := Lib.hid (below_call BW.out hb9); clear hb9 cn0 cg0 cg1 cg2 cg3 cg4 cg5 cn3 cn4 cn20 cn21 cn22 ca0 ca1 ca2 cs0 cs1 cs2 lg ln la ls; obtain ⟨cg0, cg1, cg2, cg3, cg4, cg5, cn3, cn4, cn20, cn21, cn22, ca0, ca1, ca2, cs0, cs1, cs2, lg, ln, la, ls⟩ := RO.out.all; have cn0 := RO.out.n.cell 0 _ e0))
    all_goals (go_ret; exact ⟨rfl, BW.out⟩)
  · have hzb : (cw != 0) = true := by simpa using hz
    rw [if_pos hz]
    clear hz
    go_enter Try.func35, Try.ntmps35
    go_upto_region 1 with fail
    have RO := NEW
    clear NEW
    generalize (((w.alloc (.cells #[.int .i64 gx, .int .i64 gy, .int .i64 gz, .slice ca C.length cc, .slice na ns.length nc, .int .i64 go] 26)).alloc (.cells n.cells.toArray 57)).alloc (.cells #[.int .i64 a.x, .int .i64 a.y, .int .i64 a.z] 22)).alloc (.cells #[.int .i64 s.x, .int .i64 s.y, .int .i64 s.z] 22) = W1 at *
    obtain ⟨cg0, cg1, cg2, cg3, cg4, cg5, cn3, cn4, cn20, cn21, cn22, ca0, ca1, ca2, cs0, cs1, cs2, lg, ln, la, ls⟩ := RO.out.all
    have cn0 := RO.out.n.cell 0 _ e0
    go_wp2_with (first | (go_at_call 41; (first | (with_reducible refine (HWW.out _).mono ?_) | (with_reducible refine (HII.out _).mono ?_)); rintro e w9 ⟨rfl, hb9⟩; replace RO := Lib.hid (RO.out.over hb9); replace BW := Lib.hid (below_call BW.out hb9); clear hb9 cn0 cg0 cg1 cg2 cg3 cg4 cg5 cn3 cn4 cn20 cn21 cn22 ca0 ca1 ca2 cs0 cs1 cs2 lg ln la ls; obtain ⟨cg0, cg1, cg2, cg3, cg4, cg5, cn3, cn4, cn20, cn21, cn22, ca0, ca1, ca2, cs0, cs1, cs2, lg, ln, la, ls⟩ := RO.out.all; have cn0 := RO.out.n.cell 0 _ e0) | (go_at_call 54; (first | (with_reducible refine (RCW.out _ BW.out).mono ?_)); rintro e w9 ⟨rfl, hb9⟩; replace RO := Lib.hid (RO.out.over hb9); replace BW := Lib.hid (below_call BW.out hb9); clear hb9 cn0 cg0 cg1 cg2 cg3 cg4 cg5 cn3 cn4 cn20 cn21 cn22 ca0 ca1 ca2 cs0 cs1 cs2 lg ln la ls; obtain ⟨cg0, cg1, cg2, cg3, cg4, cg5, cn3, cn4, cn20, cn21, cn22, ca0, ca1, ca2, cs0, cs1, cs2, lg, ln, la, ls⟩ := RO.out.all; have cn0 := RO.out.n.cell 0 _ e0))
    all_goals (go_ret; exact ⟨rfl, BW.out⟩)
set_option maxHeartbeats 8000000 in
theorem rweights_no (g : GrQ) (n : Nd) (a s : Sh) (h1 : 1 ≤ n.op) (h2 : n.op ≤ 14) (w : World) (hC : CnsIn w g.ca g.C g.cc) (hw : hW n.op = false) (ha : a.good = true) (hs : s.good = true) (hk : 0 ≤ n.k0 * n.k1 ∧ n.k0 * n.k1 ≤ 64) :
    Calls Try.prog 35 #[g.val, .agg n.cells.toArray, .agg #[.int .i64 a.x, .int .i64 a.y, .int .i64 a.z], .agg #[.int .i64 s.x, .int .i64 s.y, .int .i64 s.z]] w fun e w' => e = .returned (.int .i64 (weightsE (g.C.map CnQ.cn) n a s)) ∧ Below w.heap.size w w' := by
  have hne : n.op ≠ 1 ∧ n.op ≠ 2 ∧ n.op ≠ 3 ∧ n.op ≠ 4 ∧ n.op ≠ 14 := by unfold hW at hw; have := of_decide_eq_false hw; omega
  have hi : hI n.op = false := decide_eq_false (by omega)
  have q1 : (n.op == 1) = false := by simpa using hne.1
  have q2 : (n.op == 2) = false := by simpa using hne.2.1
  have q3 : (n.op == 3) = false := by simpa using hne.2.2.1
  have q4 : (n.op == 4) = false := by simpa using hne.2.2.2.1
  have q5 : (n.op == 14) = false := by simpa using hne.2.2.2.2
  obtain ⟨gx, gy, gz, ca, cc, C, na, nc, ns, go⟩ := g
  dsimp only at hC ⊢
  obtain ⟨⟨ax0, ax1⟩, ⟨ay0, ay1⟩, ⟨az0, az1⟩⟩ := good_bd ha
  obtain ⟨⟨sx0, sx1⟩, ⟨sy0, sy1⟩, ⟨sz0, sz1⟩⟩ := good_bd hs
  have HWW := Lib.hid (fun W => rhas_WW n.op h1 h2 W)
  have HII := Lib.hid (fun W => rhas_II n.op h1 h2 W)
  rw [hw] at HWW
  rw [hi] at HII
  have RC := Lib.hid (fun (W : World) (hb : Below w.heap.size w W) (i b m : Int) => rconst ⟨gx, gy, gz, ca, cc, C, na, nc, ns, go⟩ W (hC.later hb) i b m)
  unfold GrQ.val at RC ⊢
  dsimp only at RC ⊢
  have NEW := Lib.hid (WAt.new w ⟨gx, gy, gz, ca, cc, C, na, nc, ns, go⟩ n a s)
  dsimp only at NEW
  have BN : Below w.heap.size w ((((w.alloc (.cells #[.int .i64 gx, .int .i64 gy, .int .i64 gz, .slice ca C.length cc, .slice na ns.length nc, .int .i64 go] 26)).alloc (.cells n.cells.toArray 57)).alloc (.cells #[.int .i64 a.x, .int .i64 a.y, .int .i64 a.z] 22)).alloc (.cells #[.int .i64 s.x, .int .i64 s.y, .int .i64 s.z] 22)) := by go_grown
  have BW := Lib.hid BN
  clear BN hC
  have e0 : n.cells[0]? = some (.int .i64 n.op) := rfl
  obtain ⟨kk, hkk⟩ : ∃ kk, n.k0 * n.k1 = kk := ⟨_, rfl⟩
  rw [hkk] at hk
  obtain ⟨hk0, hk1⟩ := hk
  have HO : weightsE (C.map CnQ.cn) n a s = 0 := by simp [weightsE, hw, hi]
  rw [HO]
  clear HO ha hs h1 h2 hw hi hne
  go_enter Try.func35, Try.ntmps35
  go_upto_region 1 with fail
  have RO := NEW
  clear NEW
  generalize (((w.alloc (.cells #[.int .i64 gx, .int .i64 gy, .int .i64 gz, .slice ca C.length cc, .slice na ns.length nc, .int .i64 go] 26)).alloc (.cells n.cells.toArray 57)).alloc (.cells #[.int .i64 a.x, .int .i64 a.y, .int .i64 a.z] 22)).alloc (.cells #[.int .i64 s.x, .int .i64 s.y, .int .i64 s.z] 22) = W1 at *
  obtain ⟨cg0, cg1, cg2, cg3, cg4, cg5, cn3, cn4, cn20, cn21, cn22, ca0, ca1, ca2, cs0, cs1, cs2, lg, ln, la, ls⟩ := RO.out.all
  have cn0 := RO.out.n.cell 0 _ e0
  go_wp2_with (first | (go_at_call 41; (first | (with_reducible refine (HWW.out _).mono ?_) | (with_reducible refine (HII.out _).mono ?_)); rintro e w9 ⟨rfl, hb9⟩; replace RO := Lib.hid (RO.out.over hb9); replace BW := Lib.hid (below_call BW.out hb9); clear hb9 cn0 cg0 cg1 cg2 cg3 cg4 cg5 cn3 cn4 cn20 cn21 cn22 ca0 ca1 ca2 cs0 cs1 cs2 lg ln la ls; obtain ⟨cg0, cg1, cg2, cg3, cg4, cg5, cn3, cn4, cn20, cn21, cn22, ca0, ca1, ca2, cs0, cs1, cs2, lg, ln, la, ls⟩ := RO.out.all; have cn0 := RO.out.n.cell 0 _ e0))
  all_goals (go_ret; exact ⟨rfl, BW.out⟩)
theorem rweights (g : GrQ) (n : Nd) (a s : Sh) (h1 : 1 ≤ n.op) (h2 : n.op ≤ 14) (w : World) (hc : CnsIn w g.ca g.C g.cc) (ha : a.good = true) (hs : s.good = true) (hk : 0 ≤ n.k0 * n.k1 ∧ n.k0 * n.k1 ≤ 64) (hch : hC n.op = true → 1 ≤ n.chans ∧ n.chans ≤ 64) (h3 : n.op = 3 → s.z = a.z) :
    Calls Try.prog 35 #[g.val, .agg n.cells.toArray, .agg #[.int .i64 a.x, .int .i64 a.y, .int .i64 a.z], .agg #[.int .i64 s.x, .int .i64 s.y, .int .i64 s.z]] w fun e w' => e = .returned (.int .i64 (weightsE (g.C.map CnQ.cn) n a s)) ∧ Below w.heap.size w w' := by
  cases hw : hW n.op
  · exact rweights_no g n a s h1 h2 w hc hw ha hs hk
  · have h := of_decide_eq_true (show decide (n.op = 1 ∨ n.op = 2 ∨ n.op = 3 ∨ n.op = 4 ∨ n.op = 14) = true from hw)
    rcases h with h | h | h | h | h
    · exact rweights_op1 g n a s w hc h ha hs hk hch h3
    · exact rweights_op2 g n a s w hc h ha hs hk hch h3
    · exact rweights_op3 g n a s w hc h ha hs hk hch h3
    · exact rweights_op4 g n a s w hc h ha hs hk hch h3
    · exact rweights_op14 g n a s w hc h ha hs hk hch h3
end Go.Proofs.Ytdbfakllcaojcaa
