/- Layer 5's statement on acts: loads, fetches, gets, stores; any act. -/
import Derived.Test.YtnkfdpkcnfefeaaMemX
namespace Go.Proofs.Ytnkfdpkcnfefeaa
open Go Go.RowKit
set_option linter.unusedVariables false

theorem two_load {M F R X B f r : Nat} {Fb Rb : List Nat} {L : List (Nat × Nat)} {v : Value} (hb : Banks f Fb.length r Rb.length) (hag : Agree f r Fb Rb L) (s : Int) (a : Nat) (ha : a < 4294967296) :
    ∃ (n : Nat) (t : Int), ∀ W, Two M F R X B f r Fb Rb L v W → Calls Try.prog 8 #[.pointer (some ⟨M, 0, none⟩), .int .u32 (a : Nat), .int .i64 s] W (LoadPost W n t) ∧
      Calls Try.prog 9 #[.pointer (some ⟨X, 0, none⟩), .int .u32 (a : Nat), .int .i64 s] W (LoadPost W n t) := by
  by_cases hk : s = 1 ∨ s = 2 ∨ s = 4
  · obtain ⟨k, rfl⟩ : ∃ k : Nat, s = (k : Int) := ⟨s.toNat, by omega⟩
    have hk' : k = 1 ∨ k = 2 ∨ k = 4 := by omega
    refine ⟨_, _, fun W h => ⟨load_any h.m hb a k ha hk', ?_⟩⟩
    rw [← load_same hag]
    exact rload_any h.x hb a k ha hk'
  · exact ⟨0, 3, fun W h => ⟨load_size M a s W (by omega), rload_size X a s W (by omega)⟩⟩
theorem two_fetch {M F R X B f r : Nat} {Fb Rb : List Nat} {L : List (Nat × Nat)} {v : Value} (hb : Banks f Fb.length r Rb.length) (hag : Agree f r Fb Rb L) (a : Nat) (ha : a < 4294967296) :
    ∃ (n : Nat) (t : Int), ∀ W, Two M F R X B f r Fb Rb L v W → Calls Try.prog 24 #[.pointer (some ⟨M, 0, none⟩), .int .u32 (a : Nat)] W (LoadPost W n t) ∧
      Calls Try.prog 25 #[.pointer (some ⟨X, 0, none⟩), .int .u32 (a : Nat)] W (LoadPost W n t) := by
  refine ⟨_, _, fun W h => ⟨fetch_any h.m hb a ha, ?_⟩⟩
  rw [← fetch_same hag]
  exact rfetch_any h.x hb a ha
set_option maxRecDepth 100000 in
set_option maxHeartbeats 2000000 in
theorem does_load {M F R X B f r : Nat} {Fb Rb : List Nat} {L : List (Nat × Nat)} {v : Value} {W : World} (h : Two M F R X B f r Fb Rb L v W) (hb : Banks f Fb.length r Rb.length) (hag : Agree f r Fb Rb L) (s : Int) (a : Nat) (x : Int) (ha : a < 4294967296) (b : Value) :
    Calls Try.prog 13 #[.pointer (some ⟨M, 0, none⟩), .pointer (some ⟨X, 0, none⟩), .agg #[.int .i64 1, .int .i64 s, .int .u32 (a : Nat), .int .u32 x, b]] W (DoesPost M F R X B f r Fb.length Rb.length (L.length + 40) W) := by
  obtain ⟨n, t, two⟩ := two_load (M := M) (F := F) (R := R) (X := X) (B := B) (v := v) hb hag s a ha
  have TW := Lib.hid two
  have T1 := Lib.hid h
  have AG := Lib.hid hag
  clear h hag two
  go_enter Try.func13, Try.ntmps13
  go_wp2_with fail
  have B1 := Lib.hid (BoxA.new W 1 s (a : Nat) x b 45)
  have L1 := Lib.hid (show Below W.heap.size W (W.alloc (.cells #[.int .i64 1, .int .i64 s, .int .u32 (a : Nat), .int .u32 x, b] 45)) by go_grown)
  generalize W.alloc _ = W1 at *
  refine (TW.out _ (T1.out.below L1.out)).1.mono ?_
  rintro e w2 ⟨rfl, hl⟩
  have c1 := (hl.cell _).trans B1.out.c1
  have c2 := (hl.cell _).trans B1.out.c2
  have T2 := Lib.hid ((T1.out.below L1.out).like hl)
  have L2 := Lib.hid (hl.2 _ _ L1.out)
  clear hl B1 L1 T1
  go_wp2_with fail
  refine (TW.out _ T2.out).2.mono ?_
  rintro e w3 ⟨rfl, hl⟩
  have T3 := Lib.hid (T2.out.like hl)
  have L3 := Lib.hid (hl.2 _ _ L2.out)
  clear hl c1 c2 T2 L2
  go_wp2_with fail
  go_ret
  exact ⟨rfl, Fb, Rb, L, v, T3.out, AG.out, rfl, rfl, by omega, Out.of_below _ L3.out⟩
set_option maxRecDepth 100000 in
set_option maxHeartbeats 2000000 in
theorem does_fetch {M F R X B f r : Nat} {Fb Rb : List Nat} {L : List (Nat × Nat)} {v : Value} {W : World} (h : Two M F R X B f r Fb Rb L v W) (hb : Banks f Fb.length r Rb.length) (hag : Agree f r Fb Rb L) (s : Int) (a : Nat) (x : Int) (ha : a < 4294967296) (b : Value) :
    Calls Try.prog 13 #[.pointer (some ⟨M, 0, none⟩), .pointer (some ⟨X, 0, none⟩), .agg #[.int .i64 2, .int .i64 s, .int .u32 (a : Nat), .int .u32 x, b]] W (DoesPost M F R X B f r Fb.length Rb.length (L.length + 40) W) := by
  obtain ⟨n, t, two⟩ := two_fetch (M := M) (F := F) (R := R) (X := X) (B := B) (v := v) hb hag a ha
  have TW := Lib.hid two
  have T1 := Lib.hid h
  have AG := Lib.hid hag
  clear h hag two
  go_enter Try.func13, Try.ntmps13
  go_wp2_with fail
  have B1 := Lib.hid (BoxA.new W 2 s (a : Nat) x b 45)
  have L1 := Lib.hid (show Below W.heap.size W (W.alloc (.cells #[.int .i64 2, .int .i64 s, .int .u32 (a : Nat), .int .u32 x, b] 45)) by go_grown)
  generalize W.alloc _ = W1 at *
  refine (TW.out _ (T1.out.below L1.out)).1.mono ?_
  rintro e w2 ⟨rfl, hl⟩
  have c2 := (hl.cell _).trans B1.out.c2
  have T2 := Lib.hid ((T1.out.below L1.out).like hl)
  have L2 := Lib.hid (hl.2 _ _ L1.out)
  clear hl B1 L1 T1
  go_wp2_with fail
  refine (TW.out _ T2.out).2.mono ?_
  rintro e w3 ⟨rfl, hl⟩
  have T3 := Lib.hid (T2.out.like hl)
  have L3 := Lib.hid (hl.2 _ _ L2.out)
  clear hl c2 T2 L2
  go_wp2_with fail
  go_ret
  exact ⟨rfl, Fb, Rb, L, v, T3.out, AG.out, rfl, rfl, by omega, Out.of_below _ L3.out⟩
set_option maxRecDepth 100000 in
set_option maxHeartbeats 2000000 in
theorem does_gets {M F R X B f r : Nat} {Fb Rb : List Nat} {L : List (Nat × Nat)} {v : Value} {W : World} (h : Two M F R X B f r Fb Rb L v W) (hb : Banks f Fb.length r Rb.length) (hag : Agree f r Fb Rb L) (s : Int) (a : Nat) (x : Int) (ha : a < 4294967296) (hs : s < 9223372036854775808) (b : Value) :
    Calls Try.prog 13 #[.pointer (some ⟨M, 0, none⟩), .pointer (some ⟨X, 0, none⟩), .agg #[.int .i64 4, .int .i64 s, .int .u32 (a : Nat), .int .u32 x, b]] W (DoesPost M F R X B f r Fb.length Rb.length (L.length + 40) W) := by
  have T1 := Lib.hid h
  have AG := Lib.hid hag
  clear h hag
  go_enter Try.func13, Try.ntmps13
  go_wp2_with fail
  have L1 := Lib.hid (show Below W.heap.size W (W.alloc (.cells #[.int .i64 4, .int .i64 s, .int .u32 (a : Nat), .int .u32 x, b] 45)) by go_grown)
  refine (gets_any (T1.out.below L1.out) hb AG.out 4 s a x b ha hs).mono ?_
  rintro e w3 ⟨rfl, hl⟩
  have L3 := Lib.hid (L1.out.trans (hl.mono L1.out.size))
  have T3 := Lib.hid (T1.out.below L3.out)
  clear hl
  go_wp2_with fail
  go_ret
  exact ⟨rfl, Fb, Rb, L, v, T3.out, AG.out, rfl, rfl, by omega, Out.of_below _ L3.out⟩

def storeZ (r n2 a : Nat) (s : Int) : Int := if s = 1 ∨ s = 2 ∨ s = 4 then storeS r n2 a s.toNat else 4
def ramZ (r n2 : Nat) (Rb : List Nat) (a : Nat) (s : Int) (x : Nat) : List Nat := if s = 1 ∨ s = 2 ∨ s = 4 then ramS r n2 Rb a s.toNat x else Rb
def logZ (r n2 : Nat) (L : List (Nat × Nat)) (a : Nat) (s : Int) (x : Nat) : List (Nat × Nat) := if s = 1 ∨ s = 2 ∨ s = 4 then logS r n2 L a s.toNat x else L
theorem store_z {M F R f r : Nat} {Fb Rb : List Nat} {W : World} (h : MemIs M F R f r Fb Rb W) (hb : Banks f Fb.length r Rb.length) (a x : Nat) (s : Int) (ha : a < 4294967296) (hx : x < 4294967296) :
    Calls Try.prog 10 #[.pointer (some ⟨M, 0, none⟩), .int .u32 (a : Nat), .int .i64 s, .int .u32 (x : Nat)] W fun e w' => e = .returned (.int .i64 (storeZ r Rb.length a s)) ∧ MemIs M F R f r Fb (ramZ r Rb.length Rb a s x) w' ∧ Out (· = R) W w' := by
  unfold storeZ ramZ
  split
  · rename_i hk
    obtain ⟨k, rfl⟩ : ∃ k : Nat, s = (k : Int) := ⟨s.toNat, by omega⟩
    exact store_any h hb a k x ha (by omega) hx
  · rename_i hk
    exact (store_size M a s x W (by omega)).mono fun e w' ⟨he, hl⟩ => ⟨he, h.like hl, hl.out _⟩
theorem rstore_z {X B f n1 r n2 : Nat} {L : List (Nat × Nat)} {v : Value} {W : World} (h : RefIs X B f n1 r n2 L v W) (hb : Banks f n1 r n2) (a x : Nat) (s : Int) (ha : a < 4294967296) (hx : x < 4294967296) (hs : L.length + 4 ≤ 1000000) :
    Calls Try.prog 11 #[.pointer (some ⟨X, 0, none⟩), .int .u32 (a : Nat), .int .i64 s, .int .u32 (x : Nat)] W (StoreR X B f n1 r n2 (logZ r n2 L a s x) v W (storeZ r n2 a s)) := by
  unfold storeZ logZ
  split
  · rename_i hk
    obtain ⟨k, rfl⟩ : ∃ k : Nat, s = (k : Int) := ⟨s.toNat, by omega⟩
    exact rstore_any h hb a k x ha hx (by omega) hs
  · rename_i hk
    exact (rstore_size X a s x W (by omega)).mono fun e w' ⟨he, hl⟩ => ⟨he, v, h.like hl, hl.out _, .refl _ _⟩
set_option maxRecDepth 100000 in
set_option maxHeartbeats 2000000 in
theorem does_store {M F R X B f r : Nat} {Fb Rb : List Nat} {L : List (Nat × Nat)} {v : Value} {W : World} (h : Two M F R X B f r Fb Rb L v W) (hb : Banks f Fb.length r Rb.length) (hag : Agree f r Fb Rb L) (kd s : Int) (a x : Nat) (ha : a < 4294967296) (hx : x < 4294967296) (b : Value) (hL : L.length + 40 ≤ 1000000) (hap : Apart M F R X B)
    (k1 : kd ≠ 1) (k2 : kd ≠ 2) (k3 : kd ≠ 3) (k4 : kd ≠ 4) :
    Calls Try.prog 13 #[.pointer (some ⟨M, 0, none⟩), .pointer (some ⟨X, 0, none⟩), .agg #[.int .i64 kd, .int .i64 s, .int .u32 (a : Nat), .int .u32 (x : Nat), b]] W (DoesPost M F R X B f r Fb.length Rb.length (L.length + 40) W) := by
  have t1 : (kd == 1) = false := by simp; omega
  have t2 : (kd == 2) = false := by simp; omega
  have t3 : (kd == 3) = false := by simp; omega
  have t4 : (kd == 4) = false := by simp; omega
  have T1 := Lib.hid h
  have AG := Lib.hid hag
  have HB := Lib.hid hb
  have AP := Lib.hid hap
  have HV := Lib.hid (show ∀ j, v.ownBlock = some j → B ≤ j ∧ j < W.heap.size from fun j hj => h.x.own.lt j hj)
  have hXW : X < W.heap.size := h.x.lt
  have hRW : R < W.heap.size := (Array.getElem?_eq_some_iff.1 h.m.hR).1
  clear h hag hb hap k1 k2 k3 k4
  go_enter Try.func13, Try.ntmps13
  go_wp2_with fail
  have B1 := Lib.hid (BoxA.new W kd s (a : Nat) (x : Nat) b 45)
  have L1 := Lib.hid (show Below W.heap.size W (W.alloc (.cells #[.int .i64 kd, .int .i64 s, .int .u32 (a : Nat), .int .u32 (x : Nat), b] 45)) by go_grown)
  generalize W.alloc _ = W1 at *
  have hbx : W.heap.size < W1.heap.size := World.block_lt_of_cell? W1 _ B1.out.c2
  have c1 := B1.out.c1
  have c2 := B1.out.c2
  have c3 := B1.out.c3
  have T2 := Lib.hid (T1.out.below L1.out)
  have NB := Lib.hid (show ¬ RS X v W.heap.size from fun g => by
    rcases g with g | g
    · omega
    · have := (HV.out _ g).2; omega)
  have LB := Lib.hid (show Out (DS F R X B) W W1 from Out.of_below _ L1.out)
  generalize hBX : W.heap.size = bx at *
  have PS := Lib.hid (fun (w' : World) (hm : MemIs M F R f r Fb Rb w') => store_z hm HB.out a x s ha hx)
  have RS' := Lib.hid (fun (w' : World) (hm : RefIs X B f Fb.length r Rb.length L v w') => rstore_z hm HB.out a x s ha hx (by omega))
  clear B1 T1 L1
  go_region_held3 (fun w' => w'.cell? ⟨bx, 1, none⟩ = some (.int .i64 s) ∧ w'.cell? ⟨bx, 2, none⟩ = some (.int .u32 (a : Nat)) ∧ w'.cell? ⟨bx, 3, none⟩ = some (.int .u32 (x : Nat)))
    (first | go_keep | (obtain ⟨s1, s2, s3⟩ := ‹_ ∧ _ ∧ _›; exact ⟨(hcl 1).trans s1, (hcl 2).trans s2, (hcl 3).trans s3⟩))
    (first
    | (go_at_call 10
       refine (PS.out _ (T2.out.m.like (by exact ⟨rfl, fun B w h => h.drew⟩))).mono ?_
       rintro e w8 ⟨rfl, hm8, ho8⟩
       have hcl : ∀ k, w8.cell? ⟨bx, k, none⟩ = W1.cell? ⟨bx, k, none⟩ := fun k => ho8.cell (p := ⟨bx, k, none⟩) hbx (by show ¬ (bx = R); omega))
    | (go_at_call 11
       refine (RS'.out _ ((T2.out.x.like (W' := W1.drew) ⟨rfl, fun B w h => h.drew⟩).out ho8 (by have := AP.out.xr; exact this) (fun j hj => by have := (HV.out j hj).1; have := AP.out.r; show ¬ (j = R); omega))).mono ?_
       rintro e w7 ⟨rfl, v7, hr7, ho7, hf7⟩
       have hcl : ∀ k, w7.cell? ⟨bx, k, none⟩ = w8.cell? ⟨bx, k, none⟩ := fun k => ho7.cell (p := ⟨bx, k, none⟩) (Nat.lt_of_lt_of_le hbx ho8.size) NB.out))
  have D := Lib.hid (show Two M F R X B f r Fb (ramZ r Rb.length Rb a s x) (logZ r Rb.length L a s x) v7 w7 ∧ Out (DS F R X B) W w7 ∧ Agree f r Fb (ramZ r Rb.length Rb a s x) (logZ r Rb.length L a s x) ∧ (ramZ r Rb.length Rb a s x).length = Rb.length ∧ (logZ r Rb.length L a s x).length ≤ L.length + 40 by
    have lR : (ramZ r Rb.length Rb a s x).length = Rb.length := by
      unfold ramZ
      split
      · exact ramS_length _ _ _ _ _
      · rfl
    have ag : Agree f r Fb (ramZ r Rb.length Rb a s x) (logZ r Rb.length L a s x) := by
      unfold ramZ logZ
      split
      · exact agree_store AG.out HB.out.e a s.toNat x
      · exact AG.out
    have ll : (logZ r Rb.length L a s x).length ≤ L.length + 40 := by
      unfold logZ
      split
      · have := logS_length r Rb.length L a s.toNat x; omega
      · omega
    have od : Out (DS F R X B) W1 W1.drew := ⟨rfl, rfl, rfl, Nat.le_refl _, fun _ _ _ => rfl⟩
    exact ⟨two_after AP.out hm8 (by rw [lR]; exact hr7) ho7 fun j hj => (HV.out j hj).1, ((LB.out.trans od).trans (ho8.mono fun j hj => .inr (.inl hj))).trans (ho7.mono (ds_rs fun j hj => (HV.out j hj).1)), ag, lR, ll⟩)
  clear hr7 ho7 hf7 hm8 ho8 hcl
  go_wp2
  go_ret
  exact ⟨rfl, _, _, _, v7, D.out.1, D.out.2.2.1, rfl, D.out.2.2.2.1, D.out.2.2.2.2, D.out.2.1⟩
end Go.Proofs.Ytnkfdpkcnfefeaa
