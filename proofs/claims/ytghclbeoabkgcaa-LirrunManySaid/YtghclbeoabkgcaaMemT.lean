/- Both memories, all of noughts: any load and store. -/
import Derived.Test.YtghclbeoabkgcaaMemS
namespace Go.Proofs.Ytghclbeoabkgcaa
open Go Go.RowKit
set_option linter.unusedVariables false

set_option maxHeartbeats 1000000 in
theorem rstore_size (X : Nat) (a : Int) (k : Int) (x : Int) (W : World) (hk : k ≠ 1 ∧ k ≠ 2 ∧ k ≠ 4) :
    Calls Try.prog 96 #[.pointer (some ⟨X, 0, none⟩), .int .u32 a, .int .i64 k, .int .u32 x] W fun e w' => e = .returned (.int .i64 4) ∧ LikeG W w' := by
  have t1 : (k == 1) = false := by simp; omega
  have t2 : (k == 2) = false := by simp; omega
  have t4 : (k == 4) = false := by simp; omega
  have s1 : (k != 1) = true := by simp; omega
  have s2 : (k != 2) = true := by simp; omega
  have s4 : (k != 4) = true := by simp; omega
  clear hk
  go_enter Try.func96, Try.ntmps96
  go_wp2_with fail
  go_ret
  exact ⟨rfl, .refl _⟩
set_option maxHeartbeats 1000000 in
theorem rstore_align (X a k : Nat) (x : Int) (W : World) (ha : a < 4294967296) (hk : k = 1 ∨ k = 2 ∨ k = 4) (h : a % k ≠ 0) :
    Calls Try.prog 96 #[.pointer (some ⟨X, 0, none⟩), .int .u32 (a : Nat), .int .i64 (k : Nat), .int .u32 x] W fun e w' => e = .returned (.int .i64 1) ∧ LikeG W w' := by
  rcases hk with rfl | rfl | rfl
  · omega
  · have t : (((a : Int) % 2) == 0) = false := by simp; omega
    have t' : (((a : Int) % 2) != 0) = true := by simp; omega
    clear h
    go_enter Try.func96, Try.ntmps96
    go_wp2_with fail
    go_ret
    exact ⟨rfl, .refl _⟩
  · have t : (((a : Int) % 4) == 0) = false := by simp; omega
    have t' : (((a : Int) % 4) != 0) = true := by simp; omega
    clear h
    go_enter Try.func96, Try.ntmps96
    go_wp2_with fail
    go_ret
    exact ⟨rfl, .refl _⟩
set_option maxHeartbeats 1000000 in
theorem rstore_out1 (X a : Nat) (x : Int) (W : World) (ha : a < 4294967296) (h : a % 1 = 0) (hw : RamIs X a 1 false W) :
    Calls Try.prog 96 #[.pointer (some ⟨X, 0, none⟩), .int .u32 (a : Nat), .int .i64 1, .int .u32 x] W fun e w' => e = .returned (.int .i64 4) ∧ LikeG W w' := by
  have HW := Lib.hid hw
  clear h hw
  go_enter Try.func96, Try.ntmps96
  go_wp2_with fail
  refine HW.out.mono ?_
  rintro e w1 ⟨rfl, hl⟩
  go_wp2_with fail
  go_ret
  exact ⟨rfl, hl⟩
set_option maxHeartbeats 1000000 in
theorem rstore_out2 (X a : Nat) (x : Int) (W : World) (ha : a < 4294967296) (h : a % 2 = 0) (hw : RamIs X a 2 false W) :
    Calls Try.prog 96 #[.pointer (some ⟨X, 0, none⟩), .int .u32 (a : Nat), .int .i64 2, .int .u32 x] W fun e w' => e = .returned (.int .i64 4) ∧ LikeG W w' := by
  have HW := Lib.hid hw
  have t : (((a : Int) % 2) == 0) = true := by simp; omega
  have t' : (((a : Int) % 2) != 0) = false := by simp; omega
  clear h hw
  go_enter Try.func96, Try.ntmps96
  go_wp2_with fail
  refine HW.out.mono ?_
  rintro e w1 ⟨rfl, hl⟩
  go_wp2_with fail
  go_ret
  exact ⟨rfl, hl⟩
set_option maxHeartbeats 1000000 in
theorem rstore_out4 (X a : Nat) (x : Int) (W : World) (ha : a < 4294967296) (h : a % 4 = 0) (hw : RamIs X a 4 false W) :
    Calls Try.prog 96 #[.pointer (some ⟨X, 0, none⟩), .int .u32 (a : Nat), .int .i64 4, .int .u32 x] W fun e w' => e = .returned (.int .i64 4) ∧ LikeG W w' := by
  have HW := Lib.hid hw
  have t : (((a : Int) % 4) == 0) = true := by simp; omega
  have t' : (((a : Int) % 4) != 0) = false := by simp; omega
  clear h hw
  go_enter Try.func96, Try.ntmps96
  go_wp2_with fail
  refine HW.out.mono ?_
  rintro e w1 ⟨rfl, hl⟩
  go_wp2_with fail
  go_ret
  exact ⟨rfl, hl⟩
/-- what was written, behind a store -/
def logS (r n2 : Nat) (L : List (Nat × Nat)) (a k x : Nat) : List (Nat × Nat) := if storeS r n2 a k = 0 then L ++ writes a (lowB k x) else L
theorem rstore_any {X B f n1 r n2 : Nat} {L : List (Nat × Nat)} {v : Value} {W : World} (h : RefIs X B f n1 r n2 L v W) (hb : Banks f n1 r n2) (a k x : Nat) (ha : a < 4294967296) (hx : x < 4294967296) (hk : k = 1 ∨ k = 2 ∨ k = 4) (hs : L.length + 4 ≤ 1000000) :
    Calls Try.prog 96 #[.pointer (some ⟨X, 0, none⟩), .int .u32 (a : Nat), .int .i64 (k : Nat), .int .u32 (x : Nat)] W (StoreR X B f n1 r n2 (logS r n2 L a k x) v W (storeS r n2 a k)) := by
  have q1 := hb.b; have q2 := hb.d
  unfold logS
  by_cases h0 : a % k = 0
  · have hw := rram_any h (by omega) (by omega) a k ha (by omega)
    by_cases h1 : inB r n2 a k = true
    · have e : storeS r n2 a k = 0 := by unfold storeS; rw [if_neg (by omega), if_pos h1]
      rw [e, if_pos rfl]
      have := inB_out h1
      rw [h1] at hw
      rcases hk with rfl | rfl | rfl
      · exact rstore_in1 h a x hx h0 (by omega) hs hw
      · exact rstore_in2 h a x hx h0 (by omega) hs hw
      · exact rstore_in4 h a x hx h0 (by omega) hs hw
    · have h1' := Bool.eq_false_iff.2 h1
      have e : storeS r n2 a k = 4 := by unfold storeS; rw [if_neg (by omega), if_neg h1]
      rw [e, if_neg (by decide)]
      rw [h1'] at hw
      have fin : ∀ e w', (e = Ending.returned (.int .i64 4) ∧ LikeG W w') → StoreR X B f n1 r n2 L v W 4 e w' := fun e w' ⟨he, hl⟩ => ⟨he, v, h.like hl, hl.out _, .refl _ _⟩
      rcases hk with rfl | rfl | rfl
      · exact (rstore_out1 X a x W ha h0 hw).mono fin
      · exact (rstore_out2 X a x W ha h0 hw).mono fin
      · exact (rstore_out4 X a x W ha h0 hw).mono fin
  · have e : storeS r n2 a k = 1 := by unfold storeS; rw [if_pos h0]
    rw [e, if_neg (by decide)]
    exact (rstore_align X a k x W ha hk h0).mono fun e w' ⟨he, hl⟩ => ⟨he, v, h.like hl, hl.out _, .refl _ _⟩
theorem agree_store {f r : Nat} {Fb Rb : List Nat} {L : List (Nat × Nat)} (h : Agree f r Fb Rb L) (hd : f + Fb.length ≤ r ∨ r + Rb.length ≤ f) (a k x : Nat) : Agree f r Fb (ramS r Rb.length Rb a k x) (logS r Rb.length L a k x) := by
  unfold ramS logS
  by_cases hz : storeS r Rb.length a k = 0
  · rw [if_pos hz, if_pos hz]
    have hi : inB r Rb.length a k = true := by
      unfold storeS at hz
      split at hz
      · cases hz
      · split at hz
        · assumption
        · cases hz
    have := inB_out hi
    have k1 := agree_ram h hd (a - r) (lowB k x) (by rw [lowB_length]; omega)
    rwa [show r + (a - r) = a by omega] at k1
  · rw [if_neg hz, if_neg hz]; exact h
theorem ramS_length (r : Nat) (Rb : List Nat) (a k x : Nat) : (ramS r Rb.length Rb a k x).length = Rb.length := by
  unfold ramS
  split
  · rename_i hz
    have hi : inB r Rb.length a k = true := by
      unfold storeS at hz
      split at hz
      · cases hz
      · split at hz
        · assumption
        · cases hz
    have := inB_out hi
    exact setB_length _ _ _ (by rw [lowB_length]; omega)
  · rfl
theorem logS_length (r n2 : Nat) (L : List (Nat × Nat)) (a k x : Nat) : (logS r n2 L a k x).length ≤ L.length + k := by
  unfold logS
  split
  · rw [List.length_append, writes_length, lowB_length]; exact Nat.le_refl _
  · omega

/-! noughts -/
def noughts (n : Nat) : List Nat := List.replicate n 0
theorem bytes_noughts (n o k : Nat) : bytesAt (noughts n) o k = 0 := by
  unfold bytesAt noughts
  rw [List.drop_replicate, List.take_replicate]
  induction (min k (n - o)) with
  | zero => rfl
  | succ m ih => rw [List.replicate_succ]; simp [numB, ih]
theorem low_noughts (k : Nat) : lowB k 0 = List.replicate k 0 := by
  induction k with
  | zero => rfl
  | succ k ih => simp [lowB, ih, List.replicate_succ]
theorem ram_noughts (r n a k : Nat) : ramS r n (noughts n) a k 0 = noughts n := by
  unfold ramS
  split
  · rename_i hz
    have hi : inB r n a k = true := by
      unfold storeS at hz
      split at hz
      · cases hz
      · split at hz
        · assumption
        · cases hz
    have := inB_out hi
    unfold setB noughts
    rw [low_noughts, List.length_replicate, List.take_replicate, List.drop_replicate, List.replicate_append_replicate, List.replicate_append_replicate]
    congr 1
    omega
  · rfl
/-- where the document's memory may change, all told -/
def RB (X B : Nat) (j : Nat) : Prop := j = X ∨ B ≤ j
/-- both memories, all of noughts -/
structure Pair (M F R X B f n1 r n2 cnt : Nat) (W : World) : Prop where
  m : MemIs M F R f r (noughts n1) (noughts n2) W
  x : ∃ L v, RefIs X B f n1 r n2 L v W ∧ Agree f r (noughts n1) (noughts n2) L ∧ L.length ≤ 4 * cnt
theorem Pair.like {M F R X B f n1 r n2 cnt : Nat} {W W' : World} (h : Pair M F R X B f n1 r n2 cnt W) (hl : LikeG W W') : Pair M F R X B f n1 r n2 cnt W' := by
  obtain ⟨L, v, k1, k2, k3⟩ := h.x
  exact ⟨h.m.like hl, L, v, k1.like hl, k2, k3⟩
def trapL (f n1 r n2 a k : Nat) : Int := if k = 1 ∨ k = 2 ∨ k = 4 then (loadS f n1 r n2 (noughts n1) (noughts n2) a k).2 else 3
def trapS (r n2 a k : Nat) : Int := if k = 1 ∨ k = 2 ∨ k = 4 then storeS r n2 a k else 4
theorem pair_load {M F R X B f n1 r n2 cnt : Nat} {W : World} (h : Pair M F R X B f n1 r n2 cnt W) (hb : Banks f n1 r n2) (a k : Nat) (ha : a < 4294967296) :
    Calls Try.prog 55 #[.pointer (some ⟨M, 0, none⟩), .int .u32 (a : Nat), .int .i64 (k : Nat)] W (LoadPost W 0 (trapL f n1 r n2 a k)) := by
  have l1 : (noughts n1).length = n1 := List.length_replicate ..
  have l2 : (noughts n2).length = n2 := List.length_replicate ..
  unfold trapL
  split
  · rename_i hk
    have := load_any h.m (by rw [l1, l2]; exact hb) a k ha hk
    rw [l1, l2] at this
    have e : (loadS f n1 r n2 (noughts n1) (noughts n2) a k).1 = 0 := by
      unfold loadS
      split
      · rfl
      · split
        · exact bytes_noughts _ _ _
        · split
          · exact bytes_noughts _ _ _
          · rfl
    rw [e] at this
    exact this
  · rename_i hk
    exact load_size M a k W (by omega)
theorem pair_rload {M F R X B f n1 r n2 cnt : Nat} {W : World} (h : Pair M F R X B f n1 r n2 cnt W) (hb : Banks f n1 r n2) (a k : Nat) (ha : a < 4294967296) :
    Calls Try.prog 97 #[.pointer (some ⟨X, 0, none⟩), .int .u32 (a : Nat), .int .i64 (k : Nat)] W fun e w' => ∃ n : Nat, LoadPost W n (trapL f n1 r n2 a k) e w' := by
  have l1 : (noughts n1).length = n1 := List.length_replicate ..
  have l2 : (noughts n2).length = n2 := List.length_replicate ..
  obtain ⟨L, v, k1, k2, k3⟩ := h.x
  unfold trapL
  split
  · rename_i hk
    refine (rload_any k1 hb a k ha hk).mono fun e w' hp => ?_
    have e1 := load_same k2 a k
    rw [l1, l2] at e1
    rw [e1] at hp
    exact ⟨_, hp⟩
  · rename_i hk
    exact (rload_size X a k W (by omega)).mono fun e w' hp => ⟨0, hp⟩
theorem pair_store {M F R X B f n1 r n2 cnt : Nat} {W : World} (h : Pair M F R X B f n1 r n2 cnt W) (hb : Banks f n1 r n2) (hR : R < B) (hXR : X ≠ R) (a k : Nat) (ha : a < 4294967296) :
    Calls Try.prog 73 #[.pointer (some ⟨M, 0, none⟩), .int .u32 (a : Nat), .int .i64 (k : Nat), .int .u32 0] W fun e w' => e = .returned (.int .i64 (trapS r n2 a k)) ∧ Pair M F R X B f n1 r n2 cnt w' ∧ Out (· = R) W w' := by
  have l1 : (noughts n1).length = n1 := List.length_replicate ..
  have l2 : (noughts n2).length = n2 := List.length_replicate ..
  obtain ⟨L, v, k1, k2, k3⟩ := h.x
  unfold trapS
  split
  · rename_i hk
    have := store_any h.m (by rw [l1, l2]; exact hb) a k 0 ha hk (by omega)
    rw [l2, ram_noughts] at this
    refine this.mono ?_
    rintro e w' ⟨he, hm, ho⟩
    exact ⟨he, ⟨hm, L, v, k1.out ho hXR (fun j hj e => by have := (k1.own.lt j hj).1; omega), k2, k3⟩, ho⟩
  · rename_i hk
    refine (store_size M a k 0 W (by omega)).mono ?_
    rintro e w' ⟨he, hl⟩
    exact ⟨he, h.like hl, hl.out _⟩
theorem pair_rstore {M F R X B f n1 r n2 cnt : Nat} {W : World} (h : Pair M F R X B f n1 r n2 cnt W) (hb : Banks f n1 r n2) (hM : M < B ∧ M ≠ X) (hF : F < B ∧ F ≠ X) (hR : R < B ∧ R ≠ X) (hc : cnt ≤ 1000) (a k : Nat) (ha : a < 4294967296) :
    Calls Try.prog 96 #[.pointer (some ⟨X, 0, none⟩), .int .u32 (a : Nat), .int .i64 (k : Nat), .int .u32 0] W fun e w' => e = .returned (.int .i64 (trapS r n2 a k)) ∧ Pair M F R X B f n1 r n2 (cnt + 1) w' ∧ Out (RB X B) W w' := by
  have l1 : (noughts n1).length = n1 := List.length_replicate ..
  have l2 : (noughts n2).length = n2 := List.length_replicate ..
  obtain ⟨L, v, k1, k2, k3⟩ := h.x
  unfold trapS
  split
  · rename_i hk
    refine (rstore_any k1 hb a k 0 ha (by omega) hk (by omega)).mono ?_
    rintro e w' ⟨he, v', hr, ho', _⟩
    have ho := ho'.mono (T := RB X B) fun j hj => hj.imp id fun h => (k1.own.lt j h).1
    have ag := agree_store k2 (by rw [l1, l2]; exact hb.e) a k 0
    rw [l2, ram_noughts] at ag
    have hl := logS_length r n2 L a k 0
    exact ⟨he, ⟨h.m.out ho (by unfold RB; omega) (by unfold RB; omega) (by unfold RB; omega), _, v', hr, ag, by omega⟩, ho⟩
  · rename_i hk
    refine (rstore_size X a k 0 W (by omega)).mono ?_
    rintro e w' ⟨he, hl⟩
    exact ⟨he, ⟨h.m.like hl, L, v, k1.like hl, k2, by omega⟩, hl.out _⟩
end Go.Proofs.Ytghclbeoabkgcaa
