/- Layer 5's statement on acts: gets. -/
import Derived.Test.YtnkfdpkcnfefeaaMemU
import Derived.Test.YtnkfdpkcnfefeaaMemV
import Derived.Test.YtnkfdpkcnfefeaaMemT
namespace Go.Proofs.Ytnkfdpkcnfefeaa
open Go Go.RowKit
set_option linter.unusedVariables false

def actV (k s : Int) (a x : Int) (b : Value) : Value := .agg #[.int .i64 k, .int .i64 s, .int .u32 a, .int .u32 x, b]
/-- what stands for all calls: both memories -/
structure Two (M F R X B f r : Nat) (Fb Rb : List Nat) (L : List (Nat × Nat)) (v : Value) (W : World) : Prop where
  m : MemIs M F R f r Fb Rb W
  x : RefIs X B f Fb.length r Rb.length L v W
theorem Two.like {M F R X B f r : Nat} {Fb Rb : List Nat} {L : List (Nat × Nat)} {v : Value} {W W' : World} (h : Two M F R X B f r Fb Rb L v W) (hl : LikeG W W') : Two M F R X B f r Fb Rb L v W' := ⟨h.m.like hl, h.x.like hl⟩
theorem Two.below {M F R X B f r : Nat} {Fb Rb : List Nat} {L : List (Nat × Nat)} {v : Value} {W W' : World} (h : Two M F R X B f r Fb Rb L v W) (hl : Below W.heap.size W W') : Two M F R X B f r Fb Rb L v W' :=
  ⟨h.m.out (Out.of_below (fun _ => False) hl) id id id, h.x.out (Out.of_below (fun _ => False) hl) id (fun _ _ => id)⟩
theorem box5W (w : World) (cs : Array Value) (t : TypeId) (j : Nat) (v : Value) (h : cs[j]? = some v) : (w.alloc (.cells cs t)).cell? ⟨w.heap.size, j, none⟩ = some v := by
  rw [World.cell?_alloc_new]; exact h
theorem in_neg (f n a : Int) (k : Int) (hk : k < 0) (W : World) :
    Calls Try.prog 33 #[.int .u32 f, .int .u32 n, .int .u32 a, .int .i64 k] W fun e w' => e = .returned (.bool false) ∧ W = w' := by
  have t : decide (0 ≤ k) = false := by simp; omega
  clear hk
  go_enter Try.func33, Try.ntmps33
  go_wp2
  all_goals go_ret
  all_goals exact ⟨rfl, rfl⟩
theorem in_negq {f n a : Int} {k : Int} (hk : k < 0) (w : World) (m : Nat) :
    Calls Try.prog 33 #[.int .u32 f, .int .u32 n, .int .u32 a, .int .i64 k] (w.drewN m) fun e w' => e = .returned (.bool false) ∧ ∃ j, w' = w.drewN j :=
  (in_neg f n a k hk _).mono fun e w' ⟨he, hm⟩ => ⟨he, m, hm.symm⟩
theorem has_neg {X B f n1 r n2 : Nat} {L : List (Nat × Nat)} {v : Value} {W : World} (h : RefIs X B f n1 r n2 L v W) (a k : Int) (hk : k < 0) :
    Calls Try.prog 20 #[.pointer (some ⟨X, 0, none⟩), .int .u32 a, .int .i64 k] W (BoolPost W false) := by
  have F1 := Lib.hid (show ∀ W', LikeG W W' → Calls Try.prog 31 #[.pointer (some ⟨X, 0, none⟩), .int .u32 a, .int .i64 k] W' (BoolPost W' false) from fun W' hl => by
    have c0 := (h.like hl).c0
    have c1 := (h.like hl).c1
    have HK := Lib.hid hk
    clear h hl hk
    go_enter Try.func31, Try.ntmps31
    go_wp2
    go_quiet ((go_at_call 33; exact in_negq HK.out _ _))
    rename_i nq
    go_wp2
    go_ret
    exact ⟨rfl, .drewN _ _⟩)
  have F2 := Lib.hid (show ∀ W', LikeG W W' → Calls Try.prog 23 #[.pointer (some ⟨X, 0, none⟩), .int .u32 a, .int .i64 k] W' (BoolPost W' false) from fun W' hl => by
    have c2 := (h.like hl).c2
    have c3 := (h.like hl).c3
    have HK := Lib.hid hk
    clear h hl hk
    go_enter Try.func23, Try.ntmps23
    go_wp2
    go_quiet ((go_at_call 33; exact in_negq HK.out _ _))
    rename_i nq
    go_wp2
    go_ret
    exact ⟨rfl, .drewN _ _⟩)
  clear h hk
  go_enter Try.func20, Try.ntmps20
  go_wp2_with fail
  refine (F1.out _ (.refl _)).mono ?_
  rintro e w1 ⟨rfl, hl⟩
  go_wp2_with fail
  refine (F2.out _ hl).mono ?_
  rintro e w2 ⟨rfl, hl2⟩
  go_wp2_with fail
  go_ret
  exact ⟨rfl, hl.trans hl2⟩
def GetsPost (W : World) (e : Ending) (w' : World) : Prop := e = .returned (.bool true) ∧ Below W.heap.size W w'
structure BoxA (b : Nat) (kd s a x : Int) (v : Value) (W : World) : Prop where
  c0 : W.cell? ⟨b, 0, none⟩ = some (.int .i64 kd)
  c1 : W.cell? ⟨b, 1, none⟩ = some (.int .i64 s)
  c2 : W.cell? ⟨b, 2, none⟩ = some (.int .u32 a)
  c3 : W.cell? ⟨b, 3, none⟩ = some (.int .u32 x)
  c4 : W.cell? ⟨b, 4, none⟩ = some v
theorem BoxA.new (W : World) (kd s a x : Int) (v : Value) (t : TypeId) : BoxA W.heap.size kd s a x v (W.alloc (.cells #[.int .i64 kd, .int .i64 s, .int .u32 a, .int .u32 x, v] t)) :=
  ⟨box5W _ _ _ 0 _ rfl, box5W _ _ _ 1 _ rfl, box5W _ _ _ 2 _ rfl, box5W _ _ _ 3 _ rfl, box5W _ _ _ 4 _ rfl⟩
theorem BoxA.like {b : Nat} {kd s a x : Int} {v : Value} {W W' : World} (h : BoxA b kd s a x v W) (hl : LikeG W W') : BoxA b kd s a x v W' :=
  ⟨(hl.cell _).trans h.c0, (hl.cell _).trans h.c1, (hl.cell _).trans h.c2, (hl.cell _).trans h.c3, (hl.cell _).trans h.c4⟩
theorem BoxA.out {b : Nat} {kd s a x : Int} {v : Value} {S : Nat → Prop} {W W' : World} (h : BoxA b kd s a x v W) (ho : Out S W W') (hb : ¬ S b) : BoxA b kd s a x v W' := by
  have hlt := World.block_lt_of_cell? W _ h.c0
  exact ⟨(ho.cell (p := ⟨b, 0, none⟩) hlt hb).trans h.c0, (ho.cell (p := ⟨b, 1, none⟩) hlt hb).trans h.c1, (ho.cell (p := ⟨b, 2, none⟩) hlt hb).trans h.c2, (ho.cell (p := ⟨b, 3, none⟩) hlt hb).trans h.c3, (ho.cell (p := ⟨b, 4, none⟩) hlt hb).trans h.c4⟩
/-- where nothing is told -/
theorem gets_no {M X : Nat} (kd s : Int) (a x : Int) (b : Value) (W : World) (hs : s ≠ 0)
    (hg : ∀ W', Below W.heap.size W W' → Calls Try.prog 34 #[.pointer (some ⟨M, 0, none⟩), .int .u32 a, .int .i64 s] W' fun e w' => e = .returned (.tuple #[.slice none 0 0, .bool false]) ∧ LikeG W' w')
    (hh : ∀ W', Below W.heap.size W W' → Calls Try.prog 20 #[.pointer (some ⟨X, 0, none⟩), .int .u32 a, .int .i64 s] W' (BoolPost W' false)) :
    Calls Try.prog 28 #[.pointer (some ⟨M, 0, none⟩), .pointer (some ⟨X, 0, none⟩), .agg #[.int .i64 kd, .int .i64 s, .int .u32 a, .int .u32 x, b]] W (GetsPost W) := by
  have HG := Lib.hid hg
  have HH := Lib.hid hh
  have t : (s == 0) = false := by simp; omega
  clear hg hh hs
  go_enter Try.func28, Try.ntmps28
  go_wp2_with fail
  have B1 := Lib.hid (BoxA.new W kd s a x b 45)
  have L1 := Lib.hid (show Below W.heap.size W (W.alloc (.cells #[.int .i64 kd, .int .i64 s, .int .u32 a, .int .u32 x, b] 45)) by go_grown)
  generalize W.alloc _ = W1 at *
  refine (HG.out _ L1.out).mono ?_
  rintro e w2 ⟨rfl, hl⟩
  have L2 := Lib.hid (hl.2 _ _ L1.out)
  have B2 := B1.out.like hl
  have c1 := B2.c1
  have c2 := B2.c2
  have B2' := Lib.hid B2
  clear hl B1 L1 B2 HG
  go_wp2_with fail
  refine (HH.out _ L2.out).mono ?_
  rintro e w3 ⟨rfl, hl⟩
  have L3 := Lib.hid (hl.2 _ _ L2.out)
  have c1' := (hl.cell _).trans c1
  clear hl c1 c2 B2' L2 HH
  go_wp2_with fail
  go_ret
  exact ⟨rfl, L3.out⟩
theorem gets_zero {M X : Nat} (kd : Int) (a x : Int) (b : Value) (W : World) :
    Calls Try.prog 28 #[.pointer (some ⟨M, 0, none⟩), .pointer (some ⟨X, 0, none⟩), .agg #[.int .i64 kd, .int .i64 0, .int .u32 a, .int .u32 x, b]] W (GetsPost W) := by
  have HG := Lib.hid (fun W' => mget_zero M a W')
  go_enter Try.func28, Try.ntmps28
  go_wp2_with fail
  have B1 := Lib.hid (BoxA.new W kd 0 a x b 45)
  have L1 := Lib.hid (show Below W.heap.size W (W.alloc (.cells #[.int .i64 kd, .int .i64 0, .int .u32 a, .int .u32 x, b] 45)) by go_grown)
  generalize W.alloc _ = W1 at *
  refine (HG.out _).mono ?_
  rintro e w2 ⟨rfl, hl⟩
  have L2 := Lib.hid (hl.2 _ _ L1.out)
  have B2 := B1.out.like hl
  have c1 := B2.c1
  clear hl B1 L1 B2 HG
  go_wp2_with fail
  go_ret
  exact ⟨rfl, L2.out⟩
set_option maxRecDepth 100000 in
set_option maxHeartbeats 2000000 in
theorem gets_in {M F R X B f r : Nat} {Fb Rb : List Nat} {L : List (Nat × Nat)} {v : Value} {W : World} (h : Two M F R X B f r Fb Rb L v W) (kd : Int) (n a : Nat) (x : Int) (b : Value) (hn : 0 < n) (hn2 : n ≤ 1048576) (han : a + n ≤ 4294967296) (bs : List Nat) (hbs : bs.length = n) (hat : ∀ i, i < n → bs.getD i 0 = atL L (a + i))
    (hg : ∀ W', Below W.heap.size W W' → Calls Try.prog 34 #[.pointer (some ⟨M, 0, none⟩), .int .u32 (a : Nat), .int .i64 (n : Nat)] W' fun e w' => ∃ g, e = .returned (.tuple #[.slice (some ⟨g, 0, none⟩) n n, .bool true]) ∧ w'.heap[g]? = some (.cells (rowG bs) 5 (0, 0)) ∧ W'.heap.size ≤ g ∧ Below W'.heap.size W' w')
    (hh : ∀ W', Below W.heap.size W W' → HasIs X a n true W') :
    Calls Try.prog 28 #[.pointer (some ⟨M, 0, none⟩), .pointer (some ⟨X, 0, none⟩), .agg #[.int .i64 kd, .int .i64 (n : Nat), .int .u32 (a : Nat), .int .u32 x, b]] W (GetsPost W) := by
  have HG := Lib.hid hg
  have HH := Lib.hid hh
  have HA := Lib.hid hat
  have HX := Lib.hid (fun W' (hb : Below W.heap.size W W') => (h.below hb).x)
  have t : ((n : Int) == 0) = false := by simp; omega
  have HBS := Lib.hid hbs
  clear hg hh hat h hbs
  go_enter Try.func28, Try.ntmps28
  go_wp2_with fail
  have B1 := Lib.hid (BoxA.new W kd (n : Nat) (a : Nat) x b 45)
  have L1 := Lib.hid (show Below W.heap.size W (W.alloc (.cells #[.int .i64 kd, .int .i64 (n : Nat), .int .u32 (a : Nat), .int .u32 x, b] 45)) by go_grown)
  generalize W.alloc _ = W1 at *
  refine (HG.out _ L1.out).mono ?_
  rintro e w2 ⟨g, rfl, hrow, hge, hbl⟩
  have L2 := Lib.hid (L1.out.trans (hbl.mono L1.out.size))
  have B2 := B1.out.out (Out.of_below (fun _ => False) hbl) id
  have c1 := B2.c1
  have c2 := B2.c2
  have HR := Lib.hid hrow
  clear hbl B1 L1 B2 HG hge hrow
  go_wp2_with fail
  refine (HH.out _ L2.out).mono ?_
  rintro e w3 ⟨rfl, hl⟩
  have L3 := Lib.hid (hl.2 _ _ L2.out)
  have c1' := (hl.cell _).trans c1
  have c2' := (hl.cell _).trans c2
  have HR3 := Lib.hid (show w3.heap[g]? = some (.cells (rowG bs) 5 (0, 0)) by rw [hl.1]; exact HR.out)
  clear hl c1 c2 L2 HH HR
  go_wp2_with fail
  have AT := Lib.hid (fun W' (hb : Below W.heap.size W W') z (hz : z < 4294967296) => at_any (HX.out W' hb) z hz)
  clear HX
  go_loopw [9] (fun i wr => ∃ m : Nat, m ≤ n ∧ i = .int .i64 m ∧ LikeG w3 wr) (fun i _ => n - (intOf i).toNat)
  case atStart => exact ⟨0, by omega, rfl, .refl _⟩
  case round =>
    obtain ⟨m, hm, rfl, hl⟩ := hrel
    by_cases hlt : m < n
    · by_cases h300 : m < 300
      · have cx := row_cellG (W := wr) (G := g) (l := bs) (by rw [hl.1]; exact HR3.out) m (by rw [HBS.out]; exact hlt)
        have E := HA.out m hlt
        rw [E] at cx
        have c2 := (hl.cell _).trans c2'
        have HL := Lib.hid hl
        have at2 := fun q => AT.out (wr.drewN q) (below_drewN (hl.2 _ _ L3.out) q) (a + m) (by omega)
        simp only [Int.natCast_add] at at2
        have AT2 := Lib.hid at2
        clear at2
        have e1 : IntKind.u32.wrap (m : Int) = (m : Int) := wrap_in_u32 _ (by omega) (by omega)
        have e2 : IntKind.u32.wrap ((a : Int) + (m : Int)) = (a : Int) + (m : Int) := wrap_in_u32 _ (by omega) (by omega)
        generalize atL L (a + m) = y at *
        clear hl E c1' c2'
        go_wp2_with fail
        go_quiet ((go_at_call 32; refine (AT2.out _).mono ?_; rintro e w9 ⟨he, hw⟩; exact ⟨he, _, hw.symm⟩))
        rename_i nq
        go_wp2_with fail
        go_roundw
        case rel => exact ⟨m + 1, by omega, by go_num, HL.out.trans (.drewN _ _)⟩
        case measure => first | (simp [intOf]; done) | (simp [intOf]; omega)
      · have t3 : decide ((m : Int) < 300) = false := by simp; omega
        have HL := Lib.hid (hl.2 _ _ L3.out)
        clear hl c1' c2' h300
        go_wp2_with fail
        go_ret
        exact ⟨rfl, HL.out⟩
    · obtain rfl : m = n := by omega
      have HL := Lib.hid (hl.2 _ _ L3.out)
      clear hl c1' c2' hlt
      go_wp2_with fail
      go_ret
      exact ⟨rfl, HL.out⟩
theorem gets_any {M F R X B f r : Nat} {Fb Rb : List Nat} {L : List (Nat × Nat)} {v : Value} {W : World} (h : Two M F R X B f r Fb Rb L v W) (hb : Banks f Fb.length r Rb.length) (hag : Agree f r Fb Rb L) (kd s : Int) (a : Nat) (x : Int) (b : Value) (ha : a < 4294967296) (hs : s < 9223372036854775808) :
    Calls Try.prog 28 #[.pointer (some ⟨M, 0, none⟩), .pointer (some ⟨X, 0, none⟩), .agg #[.int .i64 kd, .int .i64 s, .int .u32 (a : Nat), .int .u32 x, b]] W (GetsPost W) := by
  rcases Int.lt_trichotomy s 0 with h0 | h0 | h0
  · exact gets_no kd s a x b W (by omega) (fun W' _ => mget_neg M a s W' h0) (fun W' hw => has_neg (h.below hw).x a s h0)
  · subst h0
    exact gets_zero kd a x b W
  · obtain ⟨n, rfl⟩ : ∃ n : Nat, s = (n : Int) := ⟨s.toNat, (Int.toNat_of_nonneg (Int.le_of_lt h0)).symm⟩
    have hn : 0 < n := by omega
    have q1 := hb.a; have q2 := hb.b; have q3 := hb.c; have q4 := hb.d
    cases hi : wIn f Fb.length r Rb.length a n
    · have w0 := fun W' (hw : Below W.heap.size W W') => within_any (h.below hw).m hb a n ha hn (by omega)
      have hh := fun W' (hw : Below W.heap.size W W') => has_any (h.below hw).x hb a n ha (by omega)
      simp only [hi] at w0 hh
      exact gets_no kd n a x b W (by omega) (fun W' hw => mget_out M a n W' hn (by omega) _ (w0 W' hw)) hh
    · have hbd := wIn_bd hb hi
      have hh := fun W' (hw : Below W.heap.size W W') => has_any (h.below hw).x hb a n ha (by omega)
      simp only [hi] at hh
      by_cases h1 : inB f Fb.length a n = true
      · have g := inB_out h1
        have w0 := fun W' (hw : Below W.heap.size W W') => within_any (h.below hw).m hb a n ha hn (by omega)
        simp only [wSl, hi, h1, if_true] at w0
        refine gets_in h kd n a x b hn (by omega) hbd ((Fb.drop (a - f)).take n) (by rw [List.length_take, List.length_drop]; omega) (fun i hin => ?_) (fun W' hw => mget_in M F (a - f) _ a n Fb W' hn (by omega) (w0 W' hw) (h.below hw).m.hF (by omega)) hh
        have := hag.1 (a - f + i) (by omega)
        rw [show f + (a - f + i) = a + i by omega] at this
        rw [this, List.getD_eq_getElem?_getD, List.getElem?_take, if_pos hin, List.getElem?_drop, ← List.getD_eq_getElem?_getD]
      · have h2 : inB r Rb.length a n = true := by unfold wIn at hi; simp only [h1, Bool.false_or] at hi; exact hi
        have g := inB_out h2
        have w0 := fun W' (hw : Below W.heap.size W W') => within_any (h.below hw).m hb a n ha hn (by omega)
        simp only [wSl, hi, h1, h2, if_true, Bool.false_eq_true, if_false] at w0
        refine gets_in h kd n a x b hn (by omega) hbd ((Rb.drop (a - r)).take n) (by rw [List.length_take, List.length_drop]; omega) (fun i hin => ?_) (fun W' hw => mget_in M R (a - r) _ a n Rb W' hn (by omega) (w0 W' hw) (h.below hw).m.hR (by omega)) hh
        have := hag.2 (a - r + i) (by omega)
        rw [show r + (a - r + i) = a + i by omega] at this
        rw [this, List.getD_eq_getElem?_getD, List.getElem?_take, if_pos hin, List.getElem?_drop, ← List.getD_eq_getElem?_getD]
end Go.Proofs.Ytnkfdpkcnfefeaa
