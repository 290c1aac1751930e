/- InferIdle, by the contracts of Few, Shapes and the document's Has. -/
import Derived.Test.YtekdcfepfieleaaIH
import Derived.Test.YtekdcfepfieleaaNsY
import Derived.Deep.DeepCutAuto
import Derived.Deep.CutBlock
namespace Go.Proofs.Ytekdcfepfieleaa
open Go Go.RowKit
set_option linter.unusedVariables false

theorem fz6 (w : World) (B : Nat) (v0 v1 v2 v3 v4 v5 : Value) (a : Addr) : ((((((w.setCell ⟨B, 0, none⟩ v0).setCell ⟨B, 1, none⟩ v1).setCell ⟨B, 2, none⟩ v2).setCell ⟨B, 3, none⟩ v3).setCell ⟨B, 4, none⟩ v4).setCell ⟨B, 5, none⟩ v5).frozen? a = w.frozen? a := by simp
set_option maxRecDepth 100000 in
set_option maxHeartbeats 4000000 in
theorem walk_idle (FW : FwC) (SH : ShC) (w : World) (g : GrQ) (hg : g.ok w) (wi fi : Int) (hw0 : 0 ≤ wi) (hw1 : wi ≤ 255) (hf0 : 0 ≤ fi) (hf1 : fi ≤ 255) :
    Calls Try.prog 4 #[g.val, .int .u8 wi, .int .u8 fi] w fun e w' => e = .returned (.bool true) ∧ Below w.heap.size w w' := by
  obtain ⟨T, Z, Z0, NL⟩ := node_type
  have hL := NL.load
  have hAl := NL.alloc
  have hSt := NL.store
  have tA := NL.agg
  have tS := NL.size
  have tZ := NL.zero
  obtain ⟨gx, gy, gz, ca, cc, C, na, nc, ns, go⟩ := g
  have FX := Lib.hid (fun W (hW : Below w.heap.size w W) => FW ⟨gx, gy, gz, ca, cc, C, na, nc, ns, go⟩ W ⟨hg.1, hg.2.1.later hW, FlatIn.later hg.2.2.1 hW, hg.2.2.2⟩)
  have SX := Lib.hid SH
  have LV := Lib.hid (fun W => lives24 W)
  clear FW SH hg
  unfold GrQ.val at FX ⊢
  dsimp only at FX ⊢
  go_enter Try.func4, Try.ntmps4
  simp only [hL, hAl, hSt]
  clear hL hAl hSt
  have RB := Lib.hid (RowAt.new w [.int .i64 gx, .int .i64 gy, .int .i64 gz, .slice ca C.length cc, .slice na ns.length nc, .int .i64 go] 26)
  have BB : Below w.heap.size w (w.alloc (.cells #[.int .i64 gx, .int .i64 gy, .int .i64 gz, .slice ca C.length cc, .slice na ns.length nc, .int .i64 go] 26)) := Below.alloc (Below.refl _ _) (Nat.le_refl _) _
  have FY := Lib.hid (FX.out _ BB)
  have BW := Lib.hid BB
  clear BB FX
  have hs0 : (w.alloc (.cells #[.int .i64 gx, .int .i64 gy, .int .i64 gz, .slice ca C.length cc, .slice na ns.length nc, .int .i64 go] 26)).heap.size = w.heap.size + 1 := by simp
  have HS0 := Lib.hid hs0
  clear hs0
  go_wp2_with (go_at_call 5; (with_reducible refine FY.out.mono ?_); rintro e w2 ⟨⟨hx, hy, hz, da, dc, D, ma, mc, ms, ho⟩, rfl, hb2, hk2, hn2, hq2⟩; have HQ2 := Lib.hid hq2; have HB2 := Lib.hid hb2; have HK2 := Lib.hid hk2; have HN2 := Lib.hid hn2; have r2 := RB.out.over hb2; have R2 := Lib.hid r2; have b0 := r2.cell 0 _ rfl; have b1 := r2.cell 1 _ rfl; have b2 := r2.cell 2 _ rfl; have b3 := r2.cell 3 _ rfl; have b4 := r2.cell 4 _ rfl; have b5 := r2.cell 5 _ rfl; have p0 := r2.fr 0; have p1 := r2.fr 1; have p2 := r2.fr 2; have p3 := r2.fr 3; have p4 := r2.fr 4; have p5 := r2.fr 5; have blt := r2.lt; clear hb2 hk2 hn2 hq2 r2; unfold GrQ.val; dsimp only at *)
  have R3 := Lib.hid ((((((R2.out.set (l' := [.int .i64 hx, .int .i64 gy, .int .i64 gz, .slice ca C.length cc, .slice na ns.length nc, .int .i64 go]) 0 (.int .i64 hx) (by simp) rfl).set (l' := [.int .i64 hx, .int .i64 hy, .int .i64 gz, .slice ca C.length cc, .slice na ns.length nc, .int .i64 go]) 1 (.int .i64 hy) (by simp) rfl).set (l' := [.int .i64 hx, .int .i64 hy, .int .i64 hz, .slice ca C.length cc, .slice na ns.length nc, .int .i64 go]) 2 (.int .i64 hz) (by simp) rfl).set (l' := [.int .i64 hx, .int .i64 hy, .int .i64 hz, .slice da D.length dc, .slice na ns.length nc, .int .i64 go]) 3 (.slice da D.length dc) (by simp) rfl).set (l' := [.int .i64 hx, .int .i64 hy, .int .i64 hz, .slice da D.length dc, .slice ma ms.length mc, .int .i64 go]) 4 (.slice ma ms.length mc) (by simp) rfl).set (l' := [.int .i64 hx, .int .i64 hy, .int .i64 hz, .slice da D.length dc, .slice ma ms.length mc, .int .i64 ho]) 5 (.int .i64 ho) (by simp) rfl)
  have K3 := ((((((Kp.refl (w.heap.size + 1) w2).set w.heap.size 0 (.int .i64 hx) (by omega)).set w.heap.size 1 (.int .i64 hy) (by omega)).set w.heap.size 2 (.int .i64 hz) (by omega)).set w.heap.size 3 (.slice da D.length dc) (by omega)).set w.heap.size 4 (.slice ma ms.length mc) (by omega)).set w.heap.size 5 (.int .i64 ho) (by omega)
  have CN3 := Lib.hid (HK2.out _ (by rw [HS0.out]; exact K3))
  have KK3 := Lib.hid K3
  have B3 := Lib.hid (Below.setCell (Below.setCell (Below.setCell (Below.setCell (Below.setCell (Below.setCell (below_call BW.out HB2.out) (show w.heap.size ≤ (⟨w.heap.size, 0, none⟩ : Addr).block from Nat.le_refl _) (.int .i64 hx)) (show w.heap.size ≤ (⟨w.heap.size, 1, none⟩ : Addr).block from Nat.le_refl _) (.int .i64 hy)) (show w.heap.size ≤ (⟨w.heap.size, 2, none⟩ : Addr).block from Nat.le_refl _) (.int .i64 hz)) (show w.heap.size ≤ (⟨w.heap.size, 3, none⟩ : Addr).block from Nat.le_refl _) (.slice da D.length dc)) (show w.heap.size ≤ (⟨w.heap.size, 4, none⟩ : Addr).block from Nat.le_refl _) (.slice ma ms.length mc)) (show w.heap.size ≤ (⟨w.heap.size, 5, none⟩ : Addr).block from Nat.le_refl _) (.int .i64 ho))
  clear K3 b0 b1 b2 b3 b4 b5 p0 p1 p2 p3 p4 p5 blt R2 HB2 HK2 RB FY BW
  have FZ3 := Lib.hid (fz6 w2 w.heap.size (.int .i64 hx) (.int .i64 hy) (.int .i64 hz) (.slice da D.length dc) (.slice ma ms.length mc) (.int .i64 ho))
  generalize (((((w2.setCell ⟨w.heap.size, 0, none⟩ (.int .i64 hx)).setCell ⟨w.heap.size, 1, none⟩ (.int .i64 hy)).setCell ⟨w.heap.size, 2, none⟩ (.int .i64 hz)).setCell ⟨w.heap.size, 3, none⟩ (.slice da D.length dc)).setCell ⟨w.heap.size, 4, none⟩ (.slice ma ms.length mc)).setCell ⟨w.heap.size, 5, none⟩ (.int .i64 ho) = W3 at *
  have r3 := R3.out
  have b4 := r3.cell 4 _ rfl
  have blt := r3.lt
  have hm1 := HN2.out
  have SY := SX.out ⟨hx, hy, hz, da, dc, D, ma, mc, ms, ho⟩ W3 CN3.out.1 CN3.out.2 (by show ms.length ≤ 1000; omega)
  unfold ShPost at SY
  obtain ⟨E, hE⟩ : ∃ E, E = graphE (GrQ.gr ⟨hx, hy, hz, da, dc, D, ma, mc, ms, ho⟩) := ⟨_, rfl⟩
  rw [← hE] at SY
  obtain ⟨ec, el⟩ := E
  unfold GrQ.val at SY
  dsimp only at SY
  have SZ := Lib.hid SY
  have HE := Lib.hid hE
  clear SY hE r3
  refine SZ.out.mono ?_
  rintro e w4 ⟨v, rfl, hb4, hno, hyes⟩
  have b44 := (hb4.cell (p := ⟨w.heap.size, 4, none⟩) blt).trans b4
  have blt4 := Nat.lt_of_lt_of_le blt hb4.size
  have B4 := Lib.hid (below_call B3.out hb4)
  have HB4 := Lib.hid hb4
  clear hb4 b4 blt
  by_cases h0 : ec = 0
  · by_cases hm0 : ms.length = 0
    · subst h0
      have hm0i : ((ms.length : Int) == 0) = true := by simp [hm0]
      clear hyes hno hm0
      go_wp2_with (go_at_call 7; (with_reducible refine (LV.out _).mono ?_); rintro e w5 ⟨rfl, hb5⟩; have HB5 := Lib.hid hb5; clear hb5)
      go_ret
      exact ⟨rfl, below_call B4.out HB5.out⟩
    · obtain ⟨nb, hna, hnb, hnf, hnc⟩ := HQ2.out (Nat.pos_of_ne_zero hm0)
      subst hna
      subst h0
      have hm0i : ((ms.length : Int) == 0) = false := by simp [hm0]
      obtain ⟨k, hkl, hkm⟩ : ∃ k : Nat, k < ms.length ∧ Int.tmod wi (ms.length : Int) = (k : Int) := by
        refine ⟨(Int.tmod wi (ms.length : Int)).toNat, ?_, ?_⟩
        · have h1 := Int.tmod_lt_of_pos wi (show (0 : Int) < (ms.length : Int) by omega)
          have h2 := Int.tmod_nonneg (ms.length : Int) hw0
          omega
        · have h2 := Int.tmod_nonneg (ms.length : Int) hw0
          omega
      obtain ⟨n, hn⟩ : ∃ n, ms[k]? = some n := ⟨_, List.getElem?_eq_getElem hkl⟩
      have hNd := CN3.out.2
      have hnw : AreInts kN n.cells := hNd.2.2.1 _ (List.mem_map.2 ⟨n, List.mem_of_getElem? hn, rfl⟩)
      have hblt : nb < W3.heap.size := by
        obtain ⟨b', off', hbo, hlt, _⟩ := nds_range hNd k n hn
        injection hbo with hbo
        injection hbo with e1 e2 e3
        subst e1
        exact hlt
      have hb4s : W3.heap.size ≤ w4.heap.size := HB4.out.size
      have R4 := Lib.hid (R3.out.over HB4.out)
      have ND4 := Lib.hid (FlatIn.later hNd HB4.out : NdsIn w4 (some ⟨nb, 0, none⟩) ms mc)
      have hnb4 : nb < w4.heap.size := Nat.lt_of_lt_of_le hblt hb4s
      have hgnb : w.heap.size + 1 ≤ nb := by rw [← HS0.out]; exact hnb
      have fz4 : ∀ j : Nat, w4.frozen? ⟨nb, j, none⟩ = false := fun j => (World.frozen?_of_block (HB4.out.block nb hblt)).trans ((FZ3.out _).trans (hnf j))
      have FZ4 := Lib.hid fz4
      have HNF := Lib.hid hnf
      have HNC := Lib.hid hnc
      have HKL := Lib.hid hkl
      have HN := Lib.hid hn
      have HNW := Lib.hid hnw
      have hr4 : w4.rangeAt nb (0 + k * 26) n.cells := by
        obtain ⟨b', off', hbo, hlt, hrg⟩ := nds_range ND4.out k n hn
        injection hbo with hbo
        injection hbo with e1 e2 e3
        subst e1 e2
        exact hrg
      have BZ : Below w4.heap.size w4 (w4.alloc (.cells Z0.toArray T)).drew := (Below.alloc (Below.refl _ _) (Nat.le_refl _) _).drew
      have tR := NL.read n (w4.alloc (.cells Z0.toArray T)).drew nb (k * 26) (fun j v hv => (BZ.cell (p := ⟨nb, _, none⟩) hnb4).trans (by have := hr4 j v hv; rwa [Nat.zero_add] at this))
      have tR0 := NL.read n w4.drew nb (k * 26) (fun j v hv => by have := hr4 j v hv; rwa [Nat.zero_add] at this)
      have tB : (storeCells ⟨w4.heap.size, 0, none⟩ n.cells 0).run Try.prog (w4.alloc (.cells Z0.toArray T)).drew = .ok () (w4.alloc (.cells n.cells.toArray T)).drew := NL.st1 n w4.drew
      have tL := NL.len n
      have kl0 : (0 : Int) ≤ (k : Int) := by omega
      have kl1 : (k : Int) < (ms.length : Int) := by omega
      have hmp : ¬ (ms.length : Int) = 0 := by omega
      clear hyes hno hnb hnf hnc hkl hn hnw hNd hr4 fz4 BZ hm0 hblt
      go_upto_region 5 with fail
      have hgz : w.heap.size < w4.heap.size := blt4
      have w0w : IntKind.i64.wrap wi = wi := by simp [IntKind.wrap, IntKind.signed, IntKind.bits]; omega
      go_region
      have h45 : Below w4.heap.size w4 (w4.alloc (.cells n.cells.toArray T)).drew := (Below.alloc (Below.refl _ _) (Nat.le_refl _) _).drew
      have RN5 := Lib.hid (RowAt.new w4 n.cells T).drew
      have hs5 : (w4.alloc (.cells n.cells.toArray T)).drew.heap.size = w4.heap.size + 1 := by show (w4.alloc (.cells n.cells.toArray T)).heap.size = _; simp
      have HS5 := Lib.hid hs5
      have R5 := Lib.hid (R4.out.over h45)
      have B5 := Lib.hid (below_call B4.out h45)
      have HB45 := Lib.hid h45
      clear h45 hs5 tR tR0 tB
      generalize (w4.alloc (.cells n.cells.toArray T)).drew = W5 at *
      have tR := NL.read n W5 w4.heap.size 0 RN5.out.range
      have tB := NL.st1 n W5
      go_upto_region 7 with fail
      have h56 : Below W5.heap.size W5 (W5.alloc (.cells n.cells.toArray T)) := Below.alloc (Below.refl _ _) (Nat.le_refl _) _
      have RN6 := Lib.hid (RN5.out.over h56)
      have rw6 := RowAt.new W5 n.cells T
      have hs45 : w4.heap.size < W5.heap.size := by rw [HS5.out]; omega
      have RW6 := Lib.hid rw6
      have R6 := Lib.hid (R5.out.over h56)
      have B6 := Lib.hid (below_call B5.out h56)
      have HB46 := Lib.hid (below_call HB45.out h56)
      clear h56 rw6 tR tB tL
      generalize W5.alloc (.cells n.cells.toArray T) = W6 at *
      obtain ⟨f, hf, hfm⟩ : ∃ f : Nat, f < 10 ∧ fi % 10 = (f : Int) := ⟨(fi % 10).toNat, by omega, by omega⟩
      go_upto_block 0 with fail
      have FM := Lib.hid hfm
      go_cut [] (fun wx => RowAt wx w4.heap.size (bump f n).cells ∧ RowAt wx W5.heap.size n.cells ∧ Below w4.heap.size w4 wx)
      case first =>
        have rl := RN6.out.lt
        obtain rfl | rfl | rfl | rfl | rfl | rfl | rfl | rfl | rfl | rfl : f = 0 ∨ f = 1 ∨ f = 2 ∨ f = 3 ∨ f = 4 ∨ f = 5 ∨ f = 6 ∨ f = 7 ∨ f = 8 ∨ f = 9 := by omega
        · have c0 := RN6.out.cell 2 _ rfl
          have p0 := RN6.out.fr 2
          go_wp2_with fail
          go_meet
          exact ⟨RN6.out.set 2 _ (by show 2 < 26; omega) (by first | (rw [← IntWalk.i64_left]; rfl) | (rw [← IntWalk.i32_left]; rfl)), RW6.out.aside w4.heap.size 2 _ (by omega), Below.setCell HB46.out (show w4.heap.size ≤ w4.heap.size from Nat.le_refl _) _⟩
        · have c0 := RN6.out.cell 4 _ rfl
          have p0 := RN6.out.fr 4
          go_wp2_with fail
          go_meet
          exact ⟨RN6.out.set 4 _ (by show 4 < 26; omega) (by first | (rw [← IntWalk.i64_left]; rfl) | (rw [← IntWalk.i32_left]; rfl)), RW6.out.aside w4.heap.size 4 _ (by omega), Below.setCell HB46.out (show w4.heap.size ≤ w4.heap.size from Nat.le_refl _) _⟩
        · have c0 := RN6.out.cell 10 _ rfl
          have p0 := RN6.out.fr 10
          go_wp2_with fail
          go_meet
          exact ⟨RN6.out.set 10 _ (by show 10 < 26; omega) (by first | (rw [← IntWalk.i64_left]; rfl) | (rw [← IntWalk.i32_left]; rfl)), RW6.out.aside w4.heap.size 10 _ (by omega), Below.setCell HB46.out (show w4.heap.size ≤ w4.heap.size from Nat.le_refl _) _⟩
        · have c0 := RN6.out.cell 11 _ rfl
          have p0 := RN6.out.fr 11
          go_wp2_with fail
          go_meet
          exact ⟨RN6.out.set 11 _ (by show 11 < 26; omega) (by first | (rw [← IntWalk.i64_left]; rfl) | (rw [← IntWalk.i32_left]; rfl)), RW6.out.aside w4.heap.size 11 _ (by omega), Below.setCell HB46.out (show w4.heap.size ≤ w4.heap.size from Nat.le_refl _) _⟩
        · have c0 := RN6.out.cell 12 _ rfl
          have p0 := RN6.out.fr 12
          go_wp2_with fail
          go_meet
          exact ⟨RN6.out.set 12 _ (by show 12 < 26; omega) (by first | (rw [← IntWalk.i64_left]; rfl) | (rw [← IntWalk.i32_left]; rfl)), RW6.out.aside w4.heap.size 12 _ (by omega), Below.setCell HB46.out (show w4.heap.size ≤ w4.heap.size from Nat.le_refl _) _⟩
        · have c0 := RN6.out.cell 15 _ rfl
          have p0 := RN6.out.fr 15
          go_wp2_with fail
          go_meet
          exact ⟨RN6.out.set 15 _ (by show 15 < 26; omega) (by first | (rw [← IntWalk.i64_left]; rfl) | (rw [← IntWalk.i32_left]; rfl)), RW6.out.aside w4.heap.size 15 _ (by omega), Below.setCell HB46.out (show w4.heap.size ≤ w4.heap.size from Nat.le_refl _) _⟩
        · have c0 := RN6.out.cell 20 _ rfl
          have p0 := RN6.out.fr 20
          go_wp2_with fail
          go_meet
          exact ⟨RN6.out.set 20 _ (by show 20 < 26; omega) (by first | (rw [← IntWalk.i64_left]; rfl) | (rw [← IntWalk.i32_left]; rfl)), RW6.out.aside w4.heap.size 20 _ (by omega), Below.setCell HB46.out (show w4.heap.size ≤ w4.heap.size from Nat.le_refl _) _⟩
        · have c0 := RN6.out.cell 21 _ rfl
          have p0 := RN6.out.fr 21
          go_wp2_with fail
          go_meet
          exact ⟨RN6.out.set 21 _ (by show 21 < 26; omega) (by first | (rw [← IntWalk.i64_left]; rfl) | (rw [← IntWalk.i32_left]; rfl)), RW6.out.aside w4.heap.size 21 _ (by omega), Below.setCell HB46.out (show w4.heap.size ≤ w4.heap.size from Nat.le_refl _) _⟩
        · have c0 := RN6.out.cell 22 _ rfl
          have p0 := RN6.out.fr 22
          go_wp2_with fail
          go_meet
          exact ⟨RN6.out.set 22 _ (by show 22 < 26; omega) (by first | (rw [← IntWalk.i64_left]; rfl) | (rw [← IntWalk.i32_left]; rfl)), RW6.out.aside w4.heap.size 22 _ (by omega), Below.setCell HB46.out (show w4.heap.size ≤ w4.heap.size from Nat.le_refl _) _⟩
        · have c0 := RN6.out.cell 23 _ rfl
          have p0 := RN6.out.fr 23
          go_wp2_with fail
          go_meet
          exact ⟨RN6.out.set 23 _ (by show 23 < 26; omega) (by first | (rw [← IntWalk.i64_left]; rfl) | (rw [← IntWalk.i32_left]; rfl)), RW6.out.aside w4.heap.size 23 _ (by omega), Below.setCell HB46.out (show w4.heap.size ≤ w4.heap.size from Nat.le_refl _) _⟩
      case rest =>
        obtain ⟨hr1, hr2, hb1⟩ := hcut
        have HR1 := Lib.hid hr1
        have HR2 := Lib.hid hr2
        have HB4c := Lib.hid hb1
        obtain ⟨nn, hnn⟩ : ∃ nn, nn = bump f n := ⟨_, rfl⟩
        rw [← hnn] at HR1
        have HNN := Lib.hid hnn
        have hlt1 := hr1.lt
        clear hr1 hr2 hb1 hnn RN6 RW6 R6 B6 HB46 hgz hlt1
        go_upto_region 28 with fail
        have hc8 : Below wc.heap.size wc (wc.alloc (.cells #[.int .u8 66, .int .u8 119, .int .u8 112, .int .u8 97, .int .u8 98, .int .u8 110, .int .u8 87, .int .u8 73, .int .u8 67, .int .u8 83] 5)) := Below.alloc (Below.refl _ _) (Nat.le_refl _) _
        have RL8 := Lib.hid (RowAt.new wc [.int .u8 66, .int .u8 119, .int .u8 112, .int .u8 97, .int .u8 98, .int .u8 110, .int .u8 87, .int .u8 73, .int .u8 67, .int .u8 83] 5)
        have RN8 := Lib.hid (HR1.out.over hc8)
        have RW8 := Lib.hid (HR2.out.over hc8)
        have HB48 := Lib.hid (below_call HB4c.out hc8)
        have hcs : W5.heap.size < wc.heap.size := HR2.out.lt
        clear hc8 HR1 HR2 HB4c
        generalize wc.alloc (.cells #[.int .u8 66, .int .u8 119, .int .u8 112, .int .u8 97, .int .u8 98, .int .u8 110, .int .u8 87, .int .u8 73, .int .u8 67, .int .u8 83] 5) = W8 at *
        have r8 := R4.out.over HB48.out
        have b84 := r8.cell 4 _ rfl
        have tR := NL.read nn W8.drew w4.heap.size 0 RN8.out.drew.range
        have ND8 := Lib.hid (FlatIn.later ND4.out HB48.out : NdsIn W8 (some ⟨nb, 0, none⟩) ms mc)
        have fz8 : ∀ j : Nat, W8.frozen? ⟨nb, j, none⟩ = false := fun j => (World.frozen?_of_block (HB48.out.block nb hnb4)).trans (FZ4.out j)
        have tB : (storeCells ⟨nb, k * 26, none⟩ nn.cells 0).run Try.prog W8.drew = .ok () (W8.drew.setCells nb (k * 26) nn.cells) := nds_store (w := W8.drew) ND8.out fz8 k HKL.out nn
        have tL := NL.len nn
        have FZ8 := Lib.hid fz8
        have hgz : w.heap.size < W8.heap.size := r8.lt
        clear r8 fz8
        go_region
        have hg9 := grown_setCells nb nn.cells W8.drew (k * 26)
        have hb9 : Below w.heap.size w (W8.drew.setCells nb (k * 26) nn.cells) := ((below_call B4.out HB48.out).drew).trans (grown_below hg9 (by omega) (Nat.le_of_lt hgz))
        have RN9 := Lib.hid (RN8.out.drew.far hg9 (by intro e; injection e; omega))
        have RW9 := Lib.hid (RW8.out.drew.far hg9 (by intro e; injection e; omega))
        have RL9 := Lib.hid (RL8.out.drew.far hg9 (by intro e; injection e; omega))
        have R9 := Lib.hid ((R4.out.over HB48.out).drew.far hg9 (by intro e; injection e; omega))
        have ND9 := Lib.hid (nds_set (w := W8.drew) ND8.out k HKL.out nn (by rw [HNN.out]; exact bump_wf f HNW.out))
        have CN9 := Lib.hid (HNC.out _ (kpx_setCells (W := W8.drew) (by rw [HS0.out]; exact kpx_below (kpx_below (KK3.out.but nb) HB4.out) HB48.out.drew) (k * 26) nn.cells))
        have B9 := Lib.hid hb9
        have hs9 : wc.heap.size < (W8.drew.setCells nb (k * 26) nn.cells).heap.size := RL9.out.lt
        clear hg9 hb9 tR tB tL b84
        generalize W8.drew.setCells nb (k * 26) nn.cells = W9 at *
        have SY2 := SX.out ⟨hx, hy, hz, da, dc, D, some ⟨nb, 0, none⟩, mc, ms.set k nn, ho⟩ W9 CN9.out ND9.out (by show (ms.set k nn).length ≤ 1000; rw [List.length_set]; omega)
        have hid2 : hasL f n.op = true ∨ (graphE (GrQ.gr ⟨hx, hy, hz, da, dc, D, some ⟨nb, 0, none⟩, mc, ms.set k nn, ho⟩)).1 = 4 := by
          rw [HNN.out]
          exact idle_law (g := GrQ.gr ⟨hx, hy, hz, da, dc, D, some ⟨nb, 0, none⟩, mc, ms, ho⟩) (by rw [← HE.out]) HN.out
        have hop : 1 ≤ n.op ∧ n.op ≤ 14 := by
          obtain ⟨o1, o2, _⟩ := graph_nodes (g := GrQ.gr ⟨hx, hy, hz, da, dc, D, some ⟨nb, 0, none⟩, mc, ms, ho⟩) (by rw [← HE.out]) n (List.mem_of_getElem? HN.out)
          exact ⟨o1, o2⟩
        have hne : n ≠ nn := by rw [HNN.out]; exact fun e => bump_ne f HNW.out e.symm
        have hno2 : nn.op = n.op := by rw [HNN.out]; exact bump_op f n
        have HAS := Lib.hid (fun W => has_doc nn.op f (by omega) (by omega) hf W)
        unfold ShPost at SY2
        obtain ⟨E2, hE2⟩ : ∃ E, E = graphE (GrQ.gr ⟨hx, hy, hz, da, dc, D, some ⟨nb, 0, none⟩, mc, ms.set k nn, ho⟩) := ⟨_, rfl⟩
        rw [← hE2] at SY2 hid2
        obtain ⟨ec2, el2⟩ := E2
        unfold GrQ.val at SY2
        dsimp only at SY2 hid2
        rw [List.length_set] at SY2
        have SZ2 := Lib.hid SY2
        have r9 := R9.out
        have s0 := r9.cell 0 _ rfl
        have s1 := r9.cell 1 _ rfl
        have s2 := r9.cell 2 _ rfl
        have s3 := r9.cell 3 _ rfl
        have s4 := r9.cell 4 _ rfl
        have s5 := r9.cell 5 _ rfl
        have slt := r9.lt
        clear SY2 hE2 r9
        go_upto_region 30 with (go_at_call 6; (with_reducible refine SZ2.out.mono ?_); rintro e w10 ⟨v2, rfl, hb10, _, _⟩)
        have PS := Lib.hid (show ∀ W', Below w10.heap.size w10 W' → (fun w' => (loadCellsFrom ⟨W5.heap.size, 0, none⟩ 0 Z #[]).run Try.prog w' = .ok n.cells.toArray w' ∧ (loadCellsFrom ⟨w4.heap.size, 0, none⟩ 0 Z #[]).run Try.prog w' = .ok nn.cells.toArray w' ∧ w'.cell? ⟨w4.heap.size, 0, none⟩ = some (.int .i64 nn.op) ∧ w'.cell? ⟨wc.heap.size, f, none⟩ = some (.int .u8 (letB f)) ∧ Below w10.heap.size w10 w') W' from fun W' hb => ⟨NL.read n W' _ 0 ((RW9.out.over hb10).over hb).range, NL.read nn W' _ 0 ((RN9.out.over hb10).over hb).range, ((RN9.out.over hb10).over hb).cell 0 _ rfl, ((RL9.out.over hb10).over hb).cell f _ (by
          obtain rfl | rfl | rfl | rfl | rfl | rfl | rfl | rfl | rfl | rfl : f = 0 ∨ f = 1 ∨ f = 2 ∨ f = 3 ∨ f = 4 ∨ f = 5 ∨ f = 6 ∨ f = 7 ∨ f = 8 ∨ f = 9 := by omega
          all_goals rfl), hb⟩)
        have hEq : ∀ W, (Op.equalIn 10000 38 (.agg n.cells.toArray) (.agg nn.cells.toArray)).run Try.prog W = .ok false W := fun W => by
          obtain ⟨r, hr, hq⟩ := nd_eq n nn W
          cases r
          · exact hr
          · exact absurd (hq.1 rfl) hne
        have B10 := Lib.hid (below_call B9.out hb10)
        have fl0 : (0 : Int) ≤ (f : Int) := by omega
        have fl1 : (f : Int) < 10 := by omega
        have hft : fi.tmod 10 = (f : Int) := by rw [Int.tmod_eq_emod_of_nonneg hf0]; exact FM.out
        clear s0 s1 s2 s3 s4 s5 slt hb10 b44
        by_cases hhas : hasL f n.op = true
        · rw [hno2, hhas] at HAS
          clear hid2
          refine wp_region_held_drew (S := (fun w' => (loadCellsFrom ⟨W5.heap.size, 0, none⟩ 0 Z #[]).run Try.prog w' = .ok n.cells.toArray w' ∧ (loadCellsFrom ⟨w4.heap.size, 0, none⟩ 0 Z #[]).run Try.prog w' = .ok nn.cells.toArray w' ∧ w'.cell? ⟨w4.heap.size, 0, none⟩ = some (.int .i64 nn.op) ∧ w'.cell? ⟨wc.heap.size, f, none⟩ = some (.int .u8 (letB f)) ∧ Below w10.heap.size w10 w')) (by kernel_rfl) (by exact PS.out _ (Below.refl _ _).drew) (fun hHeld => ?_)
          refine wpAnyH_take (i := 0) (oi := _) (v := ?va0) rfl (by kernel_rfl) (by kernel_rfl) (by kernel_rfl) (fun _ _ _ h => h) (Or.inl ⟨by rfl, ?ya0⟩) hHeld ?ra0
          case ya0 => (intro wq hSw; (try dsimp only at hSw); go_simp; try with_reducible rfl)
          try simp only [Act.put, List.getElem_toArray, List.getElem_cons_zero, List.setIfInBounds_toArray, List.set_cons_zero, List.set_cons_succ]
          refine wpAnyH_take (i := 1) (oi := _) (v := ?va1) rfl (by kernel_rfl) (by kernel_rfl) (by kernel_rfl) (fun _ _ _ h => h) (Or.inl ⟨by rfl, ?ya1⟩) hHeld ?ra1
          case ya1 => (intro wq hSw; (try dsimp only at hSw); go_simp; try with_reducible rfl)
          try simp only [Act.put, List.getElem_toArray, List.getElem_cons_zero, List.getElem_cons_succ, List.setIfInBounds_toArray, List.set_cons_zero, List.set_cons_succ]
          refine wpAnyH_take (i := 2) (oi := _) (v := ?va2) rfl (by kernel_rfl) (by kernel_rfl) (by kernel_rfl) (fun _ _ _ h => h) (Or.inl ⟨by rfl, ?ya2⟩) hHeld ?ra2
          case ya2 => (intro wq hSw; (try dsimp only at hSw); go_simp; try with_reducible rfl)
          try simp only [Act.put, List.getElem_toArray, List.getElem_cons_zero, List.getElem_cons_succ, List.setIfInBounds_toArray, List.set_cons_zero, List.set_cons_succ]
          refine wpAnyH_take (i := 3) (oi := _) (v := ?va3) rfl (by kernel_rfl) (by kernel_rfl) (by kernel_rfl) (fun _ _ _ h => h) (Or.inl ⟨by rfl, ?ya3⟩) hHeld ?ra3
          case ya3 => (intro wq hSw; (try dsimp only at hSw); go_simp; try with_reducible rfl)
          try simp only [Act.put, List.getElem_toArray, List.getElem_cons_zero, List.getElem_cons_succ, List.setIfInBounds_toArray, List.set_cons_zero, List.set_cons_succ]
          refine wpAnyH_take (i := 4) (oi := _) (v := ?va4) rfl (by kernel_rfl) (by kernel_rfl) (by kernel_rfl) (fun _ _ _ h => h) (Or.inl ⟨by rfl, ?ya4⟩) hHeld ?ra4
          case ya4 => (intro wq hSw; (try dsimp only at hSw); go_simp; try with_reducible rfl)
          try simp only [Act.put, List.getElem_toArray, List.getElem_cons_zero, List.getElem_cons_succ, List.setIfInBounds_toArray, List.set_cons_zero, List.set_cons_succ]
          refine wpAnyH_take (i := 5) (oi := _) (v := ?va5) rfl (by kernel_rfl) (by kernel_rfl) (by kernel_rfl) (fun _ _ _ h => h) (Or.inl ⟨by rfl, ?ya5⟩) hHeld ?ra5
          case ya5 => (intro wq hSw; (try dsimp only at hSw); go_simp; try with_reducible rfl)
          try simp only [Act.put, List.getElem_toArray, List.getElem_cons_zero, List.getElem_cons_succ, List.setIfInBounds_toArray, List.set_cons_zero, List.set_cons_succ]
          refine wpAnyH_take (i := 6) (oi := _) (v := ?va6) rfl (by kernel_rfl) (by kernel_rfl) (by kernel_rfl) (fun _ _ _ h => h) (Or.inl ⟨by rfl, ?ya6⟩) hHeld ?ra6
          case ya6 => (intro wq hSw; (try dsimp only at hSw); go_simp; try with_reducible rfl)
          try simp only [Act.put, List.getElem_toArray, List.getElem_cons_zero, List.getElem_cons_succ, List.setIfInBounds_toArray, List.set_cons_zero, List.set_cons_succ]
          refine wpAnyH_take (i := 7) (oi := _) (v := ?va7) rfl (by kernel_rfl) (by kernel_rfl) (by kernel_rfl) (fun _ _ _ h => h) (Or.inl ⟨by rfl, ?ya7⟩) hHeld ?ra7
          case ya7 => (intro wq hSw; (try dsimp only at hSw); go_simp; try with_reducible rfl)
          try simp only [Act.put, List.getElem_toArray, List.getElem_cons_zero, List.getElem_cons_succ, List.setIfInBounds_toArray, List.set_cons_zero, List.set_cons_succ]
          refine wpAnyH_take (i := 8) (oi := _) (v := ?va8) rfl (by kernel_rfl) (by kernel_rfl) (by kernel_rfl) (fun _ _ _ h => h) (Or.inl ⟨by rfl, ?ya8⟩) hHeld ?ra8
          case ya8 => (intro wq hSw; (try dsimp only at hSw); go_simp; try with_reducible rfl)
          try simp only [Act.put, List.getElem_toArray, List.getElem_cons_zero, List.getElem_cons_succ, List.setIfInBounds_toArray, List.set_cons_zero, List.set_cons_succ]
          refine wpAnyH_take (i := 9) (oi := _) (v := ?va9) rfl (by kernel_rfl) (by kernel_rfl) (by kernel_rfl) (fun _ _ _ h => h) (Or.inl ⟨by rfl, ?ya9⟩) hHeld ?ra9
          case ya9 => (intro wq hSw; (try dsimp only at hSw); go_simp; try with_reducible rfl)
          try simp only [Act.put, List.getElem_toArray, List.getElem_cons_zero, List.getElem_cons_succ, List.setIfInBounds_toArray, List.set_cons_zero, List.set_cons_succ]
          refine wpAnyH_take (i := 10) (oi := _) (v := ?va10) rfl (by kernel_rfl) (by kernel_rfl) (by kernel_rfl) (fun _ _ _ h => h) (Or.inl ⟨by rfl, ?ya10⟩) hHeld ?ra10
          case ya10 => (intro wq hSw; (try dsimp only at hSw); go_simp; try with_reducible rfl)
          try simp only [Act.put, List.getElem_toArray, List.getElem_cons_zero, List.getElem_cons_succ, List.setIfInBounds_toArray, List.set_cons_zero, List.set_cons_succ]
          refine wpAnyH_ready (rs := [11]) (by kernel_rfl) (by simp) ?_
          refine AllReadyH.cons (o := _) rfl (fun K hK => ?_) AllReadyH.nil
          go_simp
          refine (HAS.out _).mono ?_; rintro e w9 ⟨rfl, hbl⟩
          refine hK.out _ _ (PS.out w9 (below_call hHeld.2.2.2.2 hbl)) (fun hHeld2 => ?_)
          clear hK K hHeld
          have hHeld := hHeld2
          clear hHeld2
          try simp only [Act.put, List.getElem_toArray, List.getElem_cons_zero, List.getElem_cons_succ, List.setIfInBounds_toArray, List.set_cons_zero, List.set_cons_succ]
          refine wpAnyH_take (i := 12) (oi := _) (v := ?va12) rfl (by kernel_rfl) (by kernel_rfl) (by kernel_rfl) (fun _ _ _ h => h) (Or.inl ⟨by rfl, ?ya12⟩) hHeld ?ra12
          case ya12 => (intro wq hSw; (try dsimp only at hSw); go_simp; try with_reducible rfl)
          try simp only [Act.put, List.getElem_toArray, List.getElem_cons_zero, List.getElem_cons_succ, List.setIfInBounds_toArray, List.set_cons_zero, List.set_cons_succ]
          refine wpAnyH_take (i := 13) (oi := _) (v := undef) rfl (by kernel_rfl) (by kernel_rfl) (by kernel_rfl) (fun _ _ _ h => h) (Or.inr ⟨by rfl, rfl⟩) hHeld ?_
          try simp only [Act.put, List.getElem_toArray, List.getElem_cons_zero, List.getElem_cons_succ, List.setIfInBounds_toArray, List.set_cons_zero, List.set_cons_succ]
          refine wpAnyH_take (i := 14) (oi := _) (v := undef) rfl (by kernel_rfl) (by kernel_rfl) (by kernel_rfl) (fun _ _ _ h => h) (Or.inr ⟨by rfl, rfl⟩) hHeld ?_
          try simp only [Act.put, List.getElem_toArray, List.getElem_cons_zero, List.getElem_cons_succ, List.setIfInBounds_toArray, List.set_cons_zero, List.set_cons_succ]
          refine wpAnyH_take (i := 15) (oi := _) (v := ?va15) rfl (by kernel_rfl) (by kernel_rfl) (by kernel_rfl) (fun _ _ _ h => h) (Or.inl ⟨by rfl, ?ya15⟩) hHeld ?ra15
          case ya15 => (intro wq hSw; (try dsimp only at hSw); go_simp; try with_reducible rfl)
          try simp only [Act.put, List.getElem_toArray, List.getElem_cons_zero, List.getElem_cons_succ, List.setIfInBounds_toArray, List.set_cons_zero, List.set_cons_succ]
          refine wpAnyH_take (i := 16) (oi := _) (v := ?va16) rfl (by kernel_rfl) (by kernel_rfl) (by kernel_rfl) (fun _ _ _ h => h) (Or.inl ⟨by rfl, ?ya16⟩) hHeld ?ra16
          case ya16 => (intro wq hSw; (try dsimp only at hSw); go_simp; try with_reducible rfl)
          try simp only [Act.put, List.getElem_toArray, List.getElem_cons_zero, List.getElem_cons_succ, List.setIfInBounds_toArray, List.set_cons_zero, List.set_cons_succ]
          refine wpAnyH_take (i := 17) (oi := _) (v := ?va17) rfl (by kernel_rfl) (by kernel_rfl) (by kernel_rfl) (fun _ _ _ h => h) (Or.inl ⟨by rfl, ?ya17⟩) hHeld ?ra17
          case ya17 => (intro wq hSw; (try dsimp only at hSw); go_simp; try with_reducible rfl)
          try simp only [Act.put, List.getElem_toArray, List.getElem_cons_zero, List.getElem_cons_succ, List.setIfInBounds_toArray, List.set_cons_zero, List.set_cons_succ]
          refine wpAnyH_ready (rs := [18]) (by kernel_rfl) (by simp) ?_
          refine AllReadyH.cons (o := _) rfl (fun K hK => ?_) AllReadyH.nil
          go_simp
          refine (LV.out _).mono ?_; rintro e w9 ⟨rfl, hbl⟩
          refine hK.out _ _ (PS.out w9 (below_call hHeld.2.2.2.2 hbl)) (fun hHeld2 => ?_)
          clear hK K hHeld
          have hHeld := hHeld2
          clear hHeld2
          try simp only [Act.put, List.getElem_toArray, List.getElem_cons_zero, List.getElem_cons_succ, List.setIfInBounds_toArray, List.set_cons_zero, List.set_cons_succ]
          refine wpAnyH_take (i := 19) (oi := _) (v := ?va19) rfl (by kernel_rfl) (by kernel_rfl) (by kernel_rfl) (fun _ _ _ h => h) (Or.inl ⟨by rfl, ?ya19⟩) hHeld ?ra19
          case ya19 => (intro wq hSw; (try dsimp only at hSw); go_simp; try with_reducible rfl)
          try simp only [Act.put, List.getElem_toArray, List.getElem_cons_zero, List.getElem_cons_succ, List.setIfInBounds_toArray, List.set_cons_zero, List.set_cons_succ]
          refine wpAnyH_take (i := 20) (oi := _) (v := ?va20) rfl (by kernel_rfl) (by kernel_rfl) (by kernel_rfl) (fun _ _ _ h => h) (Or.inl ⟨by rfl, ?ya20⟩) hHeld ?ra20
          case ya20 => (intro wq hSw; (try dsimp only at hSw); go_simp; try with_reducible rfl)
          try simp only [Act.put, List.getElem_toArray, List.getElem_cons_zero, List.getElem_cons_succ, List.setIfInBounds_toArray, List.set_cons_zero, List.set_cons_succ]
          refine wpAnyH_done (by kernel_rfl) ?_ _
          have HBe := Lib.hid hHeld.2.2.2.2
          clear hHeld PS
          go_wp2_with fail
          go_ret
          exact ⟨rfl, below_call B10.out HBe.out⟩
        · have he2 : ec2 = 4 := by
            rcases hid2 with h | h
            · exact absurd h hhas
            · exact h
          subst he2
          have hh2 : hasL f n.op = false := by simpa using hhas
          rw [hno2, hh2] at HAS
          clear hid2 hhas
          refine wp_region_held_drew (S := (fun w' => (loadCellsFrom ⟨W5.heap.size, 0, none⟩ 0 Z #[]).run Try.prog w' = .ok n.cells.toArray w' ∧ (loadCellsFrom ⟨w4.heap.size, 0, none⟩ 0 Z #[]).run Try.prog w' = .ok nn.cells.toArray w' ∧ w'.cell? ⟨w4.heap.size, 0, none⟩ = some (.int .i64 nn.op) ∧ w'.cell? ⟨wc.heap.size, f, none⟩ = some (.int .u8 (letB f)) ∧ Below w10.heap.size w10 w')) (by kernel_rfl) (by exact PS.out _ (Below.refl _ _).drew) (fun hHeld => ?_)
          refine wpAnyH_take (i := 0) (oi := _) (v := ?vb0) rfl (by kernel_rfl) (by kernel_rfl) (by kernel_rfl) (fun _ _ _ h => h) (Or.inl ⟨by rfl, ?yb0⟩) hHeld ?rb0
          case yb0 => (intro wq hSw; (try dsimp only at hSw); go_simp; try with_reducible rfl)
          try simp only [Act.put, List.getElem_toArray, List.getElem_cons_zero, List.setIfInBounds_toArray, List.set_cons_zero, List.set_cons_succ]
          refine wpAnyH_take (i := 1) (oi := _) (v := ?vb1) rfl (by kernel_rfl) (by kernel_rfl) (by kernel_rfl) (fun _ _ _ h => h) (Or.inl ⟨by rfl, ?yb1⟩) hHeld ?rb1
          case yb1 => (intro wq hSw; (try dsimp only at hSw); go_simp; try with_reducible rfl)
          try simp only [Act.put, List.getElem_toArray, List.getElem_cons_zero, List.getElem_cons_succ, List.setIfInBounds_toArray, List.set_cons_zero, List.set_cons_succ]
          refine wpAnyH_take (i := 2) (oi := _) (v := ?vb2) rfl (by kernel_rfl) (by kernel_rfl) (by kernel_rfl) (fun _ _ _ h => h) (Or.inl ⟨by rfl, ?yb2⟩) hHeld ?rb2
          case yb2 => (intro wq hSw; (try dsimp only at hSw); go_simp; try with_reducible rfl)
          try simp only [Act.put, List.getElem_toArray, List.getElem_cons_zero, List.getElem_cons_succ, List.setIfInBounds_toArray, List.set_cons_zero, List.set_cons_succ]
          refine wpAnyH_take (i := 3) (oi := _) (v := ?vb3) rfl (by kernel_rfl) (by kernel_rfl) (by kernel_rfl) (fun _ _ _ h => h) (Or.inl ⟨by rfl, ?yb3⟩) hHeld ?rb3
          case yb3 => (intro wq hSw; (try dsimp only at hSw); go_simp; try with_reducible rfl)
          try simp only [Act.put, List.getElem_toArray, List.getElem_cons_zero, List.getElem_cons_succ, List.setIfInBounds_toArray, List.set_cons_zero, List.set_cons_succ]
          refine wpAnyH_take (i := 4) (oi := _) (v := ?vb4) rfl (by kernel_rfl) (by kernel_rfl) (by kernel_rfl) (fun _ _ _ h => h) (Or.inl ⟨by rfl, ?yb4⟩) hHeld ?rb4
          case yb4 => (intro wq hSw; (try dsimp only at hSw); go_simp; try with_reducible rfl)
          try simp only [Act.put, List.getElem_toArray, List.getElem_cons_zero, List.getElem_cons_succ, List.setIfInBounds_toArray, List.set_cons_zero, List.set_cons_succ]
          refine wpAnyH_take (i := 5) (oi := _) (v := ?vb5) rfl (by kernel_rfl) (by kernel_rfl) (by kernel_rfl) (fun _ _ _ h => h) (Or.inl ⟨by rfl, ?yb5⟩) hHeld ?rb5
          case yb5 => (intro wq hSw; (try dsimp only at hSw); go_simp; try with_reducible rfl)
          try simp only [Act.put, List.getElem_toArray, List.getElem_cons_zero, List.getElem_cons_succ, List.setIfInBounds_toArray, List.set_cons_zero, List.set_cons_succ]
          refine wpAnyH_take (i := 6) (oi := _) (v := ?vb6) rfl (by kernel_rfl) (by kernel_rfl) (by kernel_rfl) (fun _ _ _ h => h) (Or.inl ⟨by rfl, ?yb6⟩) hHeld ?rb6
          case yb6 => (intro wq hSw; (try dsimp only at hSw); go_simp; try with_reducible rfl)
          try simp only [Act.put, List.getElem_toArray, List.getElem_cons_zero, List.getElem_cons_succ, List.setIfInBounds_toArray, List.set_cons_zero, List.set_cons_succ]
          refine wpAnyH_take (i := 7) (oi := _) (v := ?vb7) rfl (by kernel_rfl) (by kernel_rfl) (by kernel_rfl) (fun _ _ _ h => h) (Or.inl ⟨by rfl, ?yb7⟩) hHeld ?rb7
          case yb7 => (intro wq hSw; (try dsimp only at hSw); go_simp; try with_reducible rfl)
          try simp only [Act.put, List.getElem_toArray, List.getElem_cons_zero, List.getElem_cons_succ, List.setIfInBounds_toArray, List.set_cons_zero, List.set_cons_succ]
          refine wpAnyH_take (i := 8) (oi := _) (v := ?vb8) rfl (by kernel_rfl) (by kernel_rfl) (by kernel_rfl) (fun _ _ _ h => h) (Or.inl ⟨by rfl, ?yb8⟩) hHeld ?rb8
          case yb8 => (intro wq hSw; (try dsimp only at hSw); go_simp; try with_reducible rfl)
          try simp only [Act.put, List.getElem_toArray, List.getElem_cons_zero, List.getElem_cons_succ, List.setIfInBounds_toArray, List.set_cons_zero, List.set_cons_succ]
          refine wpAnyH_take (i := 9) (oi := _) (v := ?vb9) rfl (by kernel_rfl) (by kernel_rfl) (by kernel_rfl) (fun _ _ _ h => h) (Or.inl ⟨by rfl, ?yb9⟩) hHeld ?rb9
          case yb9 => (intro wq hSw; (try dsimp only at hSw); go_simp; try with_reducible rfl)
          try simp only [Act.put, List.getElem_toArray, List.getElem_cons_zero, List.getElem_cons_succ, List.setIfInBounds_toArray, List.set_cons_zero, List.set_cons_succ]
          refine wpAnyH_take (i := 10) (oi := _) (v := ?vb10) rfl (by kernel_rfl) (by kernel_rfl) (by kernel_rfl) (fun _ _ _ h => h) (Or.inl ⟨by rfl, ?yb10⟩) hHeld ?rb10
          case yb10 => (intro wq hSw; (try dsimp only at hSw); go_simp; try with_reducible rfl)
          try simp only [Act.put, List.getElem_toArray, List.getElem_cons_zero, List.getElem_cons_succ, List.setIfInBounds_toArray, List.set_cons_zero, List.set_cons_succ]
          refine wpAnyH_ready (rs := [11]) (by kernel_rfl) (by simp) ?_
          refine AllReadyH.cons (o := _) rfl (fun K hK => ?_) AllReadyH.nil
          go_simp
          refine (HAS.out _).mono ?_; rintro e w9 ⟨rfl, hbl⟩
          refine hK.out _ _ (PS.out w9 (below_call hHeld.2.2.2.2 hbl)) (fun hHeld2 => ?_)
          clear hK K hHeld
          have hHeld := hHeld2
          clear hHeld2
          try simp only [Act.put, List.getElem_toArray, List.getElem_cons_zero, List.getElem_cons_succ, List.setIfInBounds_toArray, List.set_cons_zero, List.set_cons_succ]
          refine wpAnyH_take (i := 12) (oi := _) (v := ?vb12) rfl (by kernel_rfl) (by kernel_rfl) (by kernel_rfl) (fun _ _ _ h => h) (Or.inl ⟨by rfl, ?yb12⟩) hHeld ?rb12
          case yb12 => (intro wq hSw; (try dsimp only at hSw); go_simp; try with_reducible rfl)
          try simp only [Act.put, List.getElem_toArray, List.getElem_cons_zero, List.getElem_cons_succ, List.setIfInBounds_toArray, List.set_cons_zero, List.set_cons_succ]
          refine wpAnyH_take (i := 13) (oi := _) (v := ?vb13) rfl (by kernel_rfl) (by kernel_rfl) (by kernel_rfl) (fun _ _ _ h => h) (Or.inl ⟨by rfl, ?yb13⟩) hHeld ?rb13
          case yb13 => (intro wq hSw; (try dsimp only at hSw); go_simp; try with_reducible rfl)
          try simp only [Act.put, List.getElem_toArray, List.getElem_cons_zero, List.getElem_cons_succ, List.setIfInBounds_toArray, List.set_cons_zero, List.set_cons_succ]
          refine wpAnyH_take (i := 14) (oi := _) (v := ?vb14) rfl (by kernel_rfl) (by kernel_rfl) (by kernel_rfl) (fun _ _ _ h => h) (Or.inl ⟨by rfl, ?yb14⟩) hHeld ?rb14
          case yb14 => (intro wq hSw; (try dsimp only at hSw); go_simp; try with_reducible rfl)
          try simp only [Act.put, List.getElem_toArray, List.getElem_cons_zero, List.getElem_cons_succ, List.setIfInBounds_toArray, List.set_cons_zero, List.set_cons_succ]
          refine wpAnyH_take (i := 15) (oi := _) (v := ?vb15) rfl (by kernel_rfl) (by kernel_rfl) (by kernel_rfl) (fun _ _ _ h => h) (Or.inl ⟨by rfl, ?yb15⟩) hHeld ?rb15
          case yb15 => (intro wq hSw; (try dsimp only at hSw); go_simp; try with_reducible rfl)
          try simp only [Act.put, List.getElem_toArray, List.getElem_cons_zero, List.getElem_cons_succ, List.setIfInBounds_toArray, List.set_cons_zero, List.set_cons_succ]
          refine wpAnyH_take (i := 16) (oi := _) (v := ?vb16) rfl (by kernel_rfl) (by kernel_rfl) (by kernel_rfl) (fun _ _ _ h => h) (Or.inl ⟨by rfl, ?yb16⟩) hHeld ?rb16
          case yb16 => (intro wq hSw; (try dsimp only at hSw); go_simp; try with_reducible rfl)
          try simp only [Act.put, List.getElem_toArray, List.getElem_cons_zero, List.getElem_cons_succ, List.setIfInBounds_toArray, List.set_cons_zero, List.set_cons_succ]
          refine wpAnyH_take (i := 17) (oi := _) (v := ?vb17) rfl (by kernel_rfl) (by kernel_rfl) (by kernel_rfl) (fun _ _ _ h => h) (Or.inl ⟨by rfl, ?yb17⟩) hHeld ?rb17
          case yb17 => (intro wq hSw; (try dsimp only at hSw); go_simp; try with_reducible rfl)
          try simp only [Act.put, List.getElem_toArray, List.getElem_cons_zero, List.getElem_cons_succ, List.setIfInBounds_toArray, List.set_cons_zero, List.set_cons_succ]
          refine wpAnyH_ready (rs := [18]) (by kernel_rfl) (by simp) ?_
          refine AllReadyH.cons (o := _) rfl (fun K hK => ?_) AllReadyH.nil
          go_simp
          refine (LV.out _).mono ?_; rintro e w9 ⟨rfl, hbl⟩
          refine hK.out _ _ (PS.out w9 (below_call hHeld.2.2.2.2 hbl)) (fun hHeld2 => ?_)
          clear hK K hHeld
          have hHeld := hHeld2
          clear hHeld2
          try simp only [Act.put, List.getElem_toArray, List.getElem_cons_zero, List.getElem_cons_succ, List.setIfInBounds_toArray, List.set_cons_zero, List.set_cons_succ]
          refine wpAnyH_take (i := 19) (oi := _) (v := ?vb19) rfl (by kernel_rfl) (by kernel_rfl) (by kernel_rfl) (fun _ _ _ h => h) (Or.inl ⟨by rfl, ?yb19⟩) hHeld ?rb19
          case yb19 => (intro wq hSw; (try dsimp only at hSw); go_simp; try with_reducible rfl)
          try simp only [Act.put, List.getElem_toArray, List.getElem_cons_zero, List.getElem_cons_succ, List.setIfInBounds_toArray, List.set_cons_zero, List.set_cons_succ]
          refine wpAnyH_take (i := 20) (oi := _) (v := ?vb20) rfl (by kernel_rfl) (by kernel_rfl) (by kernel_rfl) (fun _ _ _ h => h) (Or.inl ⟨by rfl, ?yb20⟩) hHeld ?rb20
          case yb20 => (intro wq hSw; (try dsimp only at hSw); go_simp; try with_reducible rfl)
          try simp only [Act.put, List.getElem_toArray, List.getElem_cons_zero, List.getElem_cons_succ, List.setIfInBounds_toArray, List.set_cons_zero, List.set_cons_succ]
          refine wpAnyH_done (by kernel_rfl) ?_ _
          have HBe := Lib.hid hHeld.2.2.2.2
          clear hHeld PS
          go_wp2_with fail
          go_ret
          exact ⟨rfl, below_call B10.out HBe.out⟩
  · obtain rfl := hno h0
    have h0b : (ec != 0) = true := by simpa using h0
    clear hyes hno
    go_wp2_with (go_at_call 7; (with_reducible refine (LV.out _).mono ?_); rintro e w5 ⟨rfl, hb5⟩; have HB5 := Lib.hid hb5; clear hb5)
    go_ret
    exact ⟨rfl, below_call B4.out HB5.out⟩
end Go.Proofs.Ytekdcfepfieleaa
