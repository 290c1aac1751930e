/- The document's memory: Load, Fetch, Store. -/
import Derived.Test.YtghclbeoabkgcaaMemR
import Derived.Laws.AppendOwn
import Derived.Deep.AppendLies
namespace Go.Proofs.Ytghclbeoabkgcaa
open Go Go.RowKit
set_option linter.unusedVariables false

/-- what the document's load tells -/
def loadR (f n1 r n2 : Nat) (L : List (Nat × Nat)) (a k : Nat) : Nat × Int := if a % k ≠ 0 then (0, 1) else if wIn f n1 r n2 a k then (wordL L a k, 0) else (0, 3)
def fetchR (f n1 r n2 : Nat) (L : List (Nat × Nat)) (a : Nat) : Nat × Int := if a % 4 ≠ 0 then (0, 1) else if wIn f n1 r n2 a 4 then (wordL L a 4, 0) else (0, 2)
theorem wIn_bd {f n1 r n2 a k : Nat} (hb : Banks f n1 r n2) (h : wIn f n1 r n2 a k = true) : a + k ≤ 4294967296 := by
  have := hb.a; have := hb.b
  unfold wIn inB at h
  simp only [Bool.or_eq_true, decide_eq_true_eq] at h
  omega
/-- both banks' bytes -/
theorem load_same {f r : Nat} {Fb Rb : List Nat} {L : List (Nat × Nat)} (h : Agree f r Fb Rb L) (a k : Nat) : loadR f Fb.length r Rb.length L a k = loadS f Fb.length r Rb.length Fb Rb a k := by
  unfold loadR loadS wIn
  by_cases h0 : a % k = 0
  · simp only [h0, ne_eq, not_true_eq_false, if_false]
    by_cases h1 : inB f Fb.length a k = true
    · have := inB_out h1
      simp only [h1, Bool.true_or, if_true]
      have := word_of (a := f) (o := a - f) k h.1 (by omega)
      rw [show f + (a - f) = a by omega] at this
      rw [this]; rfl
    · by_cases h2 : inB r Rb.length a k = true
      · have := inB_out h2
        simp only [h1, h2, Bool.or_true, if_true, Bool.false_eq_true, if_false]
        have := word_of (a := r) (o := a - r) k h.2 (by omega)
        rw [show r + (a - r) = a by omega] at this
        rw [this]; rfl
      · simp only [h1, h2, Bool.or_self, Bool.false_eq_true, if_false]
  · simp only [h0, ne_eq, not_false_eq_true, if_true]
theorem fetch_same {f r : Nat} {Fb Rb : List Nat} {L : List (Nat × Nat)} (h : Agree f r Fb Rb L) (a : Nat) : fetchR f Fb.length r Rb.length L a = fetchS f Fb.length r Rb.length Fb Rb a := by
  unfold fetchR fetchS wIn
  by_cases h0 : a % 4 = 0
  · simp only [h0, ne_eq, not_true_eq_false, if_false]
    by_cases h1 : inB f Fb.length a 4 = true
    · have := inB_out h1
      simp only [h1, Bool.true_or, if_true]
      have := word_of (a := f) (o := a - f) 4 h.1 (by omega)
      rw [show f + (a - f) = a by omega] at this
      rw [this]; rfl
    · by_cases h2 : inB r Rb.length a 4 = true
      · have := inB_out h2
        simp only [h1, h2, Bool.or_true, if_true, Bool.false_eq_true, if_false]
        have := word_of (a := r) (o := a - r) 4 h.2 (by omega)
        rw [show r + (a - r) = a by omega] at this
        rw [this]; rfl
      · simp only [h1, h2, Bool.or_self, Bool.false_eq_true, if_false]
  · simp only [h0, ne_eq, not_false_eq_true, if_true]

set_option maxHeartbeats 1000000 in
theorem rload_size (X : Nat) (a : Int) (k : Int) (W : World) (hk : k ≠ 1 ∧ k ≠ 2 ∧ k ≠ 4) :
    Calls Try.prog 97 #[.pointer (some ⟨X, 0, none⟩), .int .u32 a, .int .i64 k] W (LoadPost W 0 3) := by
  have t1 : (k == 1) = false := by simp; omega
  have t2 : (k == 2) = false := by simp; omega
  have t4 : (k == 4) = false := by simp; omega
  have s1 : (k != 1) = true := by simp; omega
  have s2 : (k != 2) = true := by simp; omega
  have s4 : (k != 4) = true := by simp; omega
  clear hk
  go_enter Try.func97, Try.ntmps97
  go_wp2_with fail
  go_ret2
  exact ⟨rfl, .refl _⟩
set_option maxHeartbeats 1000000 in
theorem rload_align (X a k : Nat) (W : World) (ha : a < 4294967296) (hk : k = 1 ∨ k = 2 ∨ k = 4) (h : a % k ≠ 0) :
    Calls Try.prog 97 #[.pointer (some ⟨X, 0, none⟩), .int .u32 (a : Nat), .int .i64 (k : Nat)] W (LoadPost W 0 1) := by
  rcases hk with rfl | rfl | rfl
  · omega
  · have t : (((a : Int) % 2) == 0) = false := by simp; omega
    have t' : (((a : Int) % 2) != 0) = true := by simp; omega
    clear h
    go_enter Try.func97, Try.ntmps97
    go_wp2_with fail
    go_ret2
    exact ⟨rfl, .refl _⟩
  · have t : (((a : Int) % 4) == 0) = false := by simp; omega
    have t' : (((a : Int) % 4) != 0) = true := by simp; omega
    clear h
    go_enter Try.func97, Try.ntmps97
    go_wp2_with fail
    go_ret2
    exact ⟨rfl, .refl _⟩
def WordIs (X : Nat) (a k : Nat) (y : Nat) (W : World) : Prop := Calls Try.prog 108 #[.pointer (some ⟨X, 0, none⟩), .int .u32 (a : Nat), .int .i64 (k : Nat)] W fun e w' => e = .returned (.int .u32 (y : Nat)) ∧ W = w'
def HasIs (X : Nat) (a k : Nat) (b : Bool) (W : World) : Prop := Calls Try.prog 79 #[.pointer (some ⟨X, 0, none⟩), .int .u32 (a : Nat), .int .i64 (k : Nat)] W (BoolPost W b)
def RamIs (X : Nat) (a k : Nat) (b : Bool) (W : World) : Prop := Calls Try.prog 95 #[.pointer (some ⟨X, 0, none⟩), .int .u32 (a : Nat), .int .i64 (k : Nat)] W (BoolPost W b)
set_option maxHeartbeats 1000000 in
theorem rload_in1 (X a y : Nat) (W : World) (ha : a < 4294967296) (h : a % 1 = 0) (hw : HasIs X a 1 true W) (hn : ∀ W', LikeG W W' → WordIs X a 1 y W') :
    Calls Try.prog 97 #[.pointer (some ⟨X, 0, none⟩), .int .u32 (a : Nat), .int .i64 1] W (LoadPost W y 0) := by
  have HW := Lib.hid hw
  have NB := Lib.hid hn
  clear h hw hn
  go_enter Try.func97, Try.ntmps97
  go_wp2_with fail
  refine HW.out.mono ?_
  rintro e w1 ⟨rfl, hl⟩
  have HL := Lib.hid hl
  clear hl
  go_wp2_with fail
  refine (NB.out _ HL.out).mono ?_
  rintro e w2 ⟨rfl, rfl⟩
  go_wp2_with fail
  go_ret2
  exact ⟨rfl, HL.out⟩
set_option maxHeartbeats 1000000 in
theorem rload_out1 (X a : Nat) (W : World) (ha : a < 4294967296) (h : a % 1 = 0) (hw : HasIs X a 1 false W) :
    Calls Try.prog 97 #[.pointer (some ⟨X, 0, none⟩), .int .u32 (a : Nat), .int .i64 1] W (LoadPost W 0 3) := by
  have HW := Lib.hid hw
  clear h hw
  go_enter Try.func97, Try.ntmps97
  go_wp2_with fail
  refine HW.out.mono ?_
  rintro e w1 ⟨rfl, hl⟩
  go_wp2_with fail
  go_ret2
  exact ⟨rfl, hl⟩
set_option maxHeartbeats 1000000 in
theorem rload_in2 (X a y : Nat) (W : World) (ha : a < 4294967296) (h : a % 2 = 0) (hw : HasIs X a 2 true W) (hn : ∀ W', LikeG W W' → WordIs X a 2 y W') :
    Calls Try.prog 97 #[.pointer (some ⟨X, 0, none⟩), .int .u32 (a : Nat), .int .i64 2] W (LoadPost W y 0) := by
  have HW := Lib.hid hw
  have NB := Lib.hid hn
  have t : (((a : Int) % 2) == 0) = true := by simp; omega
  have t' : (((a : Int) % 2) != 0) = false := by simp; omega
  clear h hw hn
  go_enter Try.func97, Try.ntmps97
  go_wp2_with fail
  refine HW.out.mono ?_
  rintro e w1 ⟨rfl, hl⟩
  have HL := Lib.hid hl
  clear hl
  go_wp2_with fail
  refine (NB.out _ HL.out).mono ?_
  rintro e w2 ⟨rfl, rfl⟩
  go_wp2_with fail
  go_ret2
  exact ⟨rfl, HL.out⟩
set_option maxHeartbeats 1000000 in
theorem rload_out2 (X a : Nat) (W : World) (ha : a < 4294967296) (h : a % 2 = 0) (hw : HasIs X a 2 false W) :
    Calls Try.prog 97 #[.pointer (some ⟨X, 0, none⟩), .int .u32 (a : Nat), .int .i64 2] W (LoadPost W 0 3) := by
  have HW := Lib.hid hw
  have t : (((a : Int) % 2) == 0) = true := by simp; omega
  have t' : (((a : Int) % 2) != 0) = false := by simp; omega
  clear h hw
  go_enter Try.func97, Try.ntmps97
  go_wp2_with fail
  refine HW.out.mono ?_
  rintro e w1 ⟨rfl, hl⟩
  go_wp2_with fail
  go_ret2
  exact ⟨rfl, hl⟩
set_option maxHeartbeats 1000000 in
theorem rload_in4 (X a y : Nat) (W : World) (ha : a < 4294967296) (h : a % 4 = 0) (hw : HasIs X a 4 true W) (hn : ∀ W', LikeG W W' → WordIs X a 4 y W') :
    Calls Try.prog 97 #[.pointer (some ⟨X, 0, none⟩), .int .u32 (a : Nat), .int .i64 4] W (LoadPost W y 0) := by
  have HW := Lib.hid hw
  have NB := Lib.hid hn
  have t : (((a : Int) % 4) == 0) = true := by simp; omega
  have t' : (((a : Int) % 4) != 0) = false := by simp; omega
  clear h hw hn
  go_enter Try.func97, Try.ntmps97
  go_wp2_with fail
  refine HW.out.mono ?_
  rintro e w1 ⟨rfl, hl⟩
  have HL := Lib.hid hl
  clear hl
  go_wp2_with fail
  refine (NB.out _ HL.out).mono ?_
  rintro e w2 ⟨rfl, rfl⟩
  go_wp2_with fail
  go_ret2
  exact ⟨rfl, HL.out⟩
set_option maxHeartbeats 1000000 in
theorem rload_out4 (X a : Nat) (W : World) (ha : a < 4294967296) (h : a % 4 = 0) (hw : HasIs X a 4 false W) :
    Calls Try.prog 97 #[.pointer (some ⟨X, 0, none⟩), .int .u32 (a : Nat), .int .i64 4] W (LoadPost W 0 3) := by
  have HW := Lib.hid hw
  have t : (((a : Int) % 4) == 0) = true := by simp; omega
  have t' : (((a : Int) % 4) != 0) = false := by simp; omega
  clear h hw
  go_enter Try.func97, Try.ntmps97
  go_wp2_with fail
  refine HW.out.mono ?_
  rintro e w1 ⟨rfl, hl⟩
  go_wp2_with fail
  go_ret2
  exact ⟨rfl, hl⟩
theorem rload_any {X B f n1 r n2 : Nat} {L : List (Nat × Nat)} {v : Value} {W : World} (h : RefIs X B f n1 r n2 L v W) (hb : Banks f n1 r n2) (a k : Nat) (ha : a < 4294967296) (hk : k = 1 ∨ k = 2 ∨ k = 4) :
    Calls Try.prog 97 #[.pointer (some ⟨X, 0, none⟩), .int .u32 (a : Nat), .int .i64 (k : Nat)] W (LoadPost W (loadR f n1 r n2 L a k).1 (loadR f n1 r n2 L a k).2) := by
  unfold loadR
  by_cases h0 : a % k = 0
  · rw [if_neg (by omega)]
    have hw := has_any h hb a k ha (by omega)
    cases hi : wIn f n1 r n2 a k
    · rw [hi] at hw
      rcases hk with rfl | rfl | rfl
      · exact rload_out1 X a W ha h0 hw
      · exact rload_out2 X a W ha h0 hw
      · exact rload_out4 X a W ha h0 hw
    · rw [hi] at hw
      have hbd := wIn_bd hb hi
      have hn := fun W' (hl : LikeG W W') => word_any (h.like hl) a k (by omega) hbd ha
      rcases hk with rfl | rfl | rfl
      · exact rload_in1 X a _ W ha h0 hw hn
      · exact rload_in2 X a _ W ha h0 hw hn
      · exact rload_in4 X a _ W ha h0 hw hn
  · rw [if_pos h0]
    exact rload_align X a k W ha hk h0
/-! Store -/
theorem info_byteR : (Try.prog.info? 124).map (fun i => (i.zero, i.size, i.bytes)) = some (some (.agg #[.int .u32 0, .int .u8 0]), 2, 8) := by kernel_rfl
theorem RefIs.out {X B f n1 r n2 : Nat} {L : List (Nat × Nat)} {v : Value} {S : Nat → Prop} {W W' : World} (h : RefIs X B f n1 r n2 L v W) (ho : Out S W W') (hX : ¬ S X) (hS : ∀ j, v.ownBlock = some j → ¬ S j) : RefIs X B f n1 r n2 L v W' :=
  { c0 := (ho.cell h.lt hX).trans h.c0, c1 := (ho.cell h.lt hX).trans h.c1, c2 := (ho.cell h.lt hX).trans h.c2, c3 := (ho.cell h.lt hX).trans h.c3, c4 := (ho.cell h.lt hX).trans h.c4
    fz := (World.frozen?_of_block (a := ⟨X, 4, none⟩) (ho.block X h.lt hX)).trans h.fz
    own := ho.row h.own hS
    ok := h.ok, hx := h.hx, lt := Nat.lt_of_lt_of_le h.lt ho.size, bs := Nat.le_trans h.bs ho.size, small := h.small }
theorem out_set (X k : Nat) (v : Value) (W : World) : Out (· = X) W (W.setCell ⟨X, k, none⟩ v) :=
  ⟨rfl, rfl, rfl, by rw [World.size_setCell]; exact Nat.le_refl _, fun i hi hne => Below.heap_setCell _ _ _ _ (fun e => hne e)⟩
/-- a byte more -/
theorem RefIs.more {X B f n1 r n2 g cap : Nat} {L : List (Nat × Nat)} {v : Value} {W V V' : World} {x : Nat × Nat} (h : RefIs X B f n1 r n2 L v W) (hV : Below W.heap.size W V) (hx : x.1 < 4294967296 ∧ x.2 < 256) (hs : L.length + 1 ≤ 1000000)
    (hown : V'.ownsRow B 124 2 (.slice (some ⟨g, 0, none⟩) (L.length + 1) cap) (L.length + 1) (cellsB L ++ [.int .u32 (x.1 : Int), .int .u8 (x.2 : Int)])) (hg : V.grownBy V' v.ownBlock) (hat : v.ownBlock = some g ∨ g = V.heap.size) :
    RefIs X B f n1 r n2 (L ++ [x]) (.slice (some ⟨g, 0, none⟩) (L.length + 1) cap) (V'.setCell ⟨X, 4, none⟩ (.slice (some ⟨g, 0, none⟩) (L.length + 1) cap)) ∧ Out (RS X v) W (V'.setCell ⟨X, 4, none⟩ (.slice (some ⟨g, 0, none⟩) (L.length + 1) cap)) ∧ Fresh v (.slice (some ⟨g, 0, none⟩) (L.length + 1) cap) W := by
  have hgX : g ≠ X := fun e => by
    subst e
    rcases hat with e | e
    · exact h.hx e
    · have := h.lt; have := hV.size; omega
  have hfr : Fresh v (.slice (some ⟨g, 0, none⟩) (L.length + 1) cap) W := fun j hj => by
    have : g = j := Option.some.inj hj
    subst this
    rcases hat with e | e
    · exact .inl e
    · exact .inr (by rw [e]; exact hV.size)
  generalize hv' : Value.slice (some ⟨g, 0, none⟩) (L.length + 1) cap = v' at *
  have hne : v'.ownBlock ≠ some X := fun e => by
    rw [← hv'] at e
    exact hgX (Option.some.inj e)
  have o1 : Out (RS X v) W V := .of_below _ hV
  have o2 : Out (RS X v) V V' := .of_grown hg fun k hk => .inr hk
  have o3 := (out_set X 4 v' V').mono (T := RS X v) fun j hj => .inl hj
  have cX : ∀ k, V'.cell? ⟨X, k, none⟩ = W.cell? ⟨X, k, none⟩ := fun k => by
    rw [World.cell?_of_block (a := ⟨X, k, none⟩) (hg.block X (Nat.lt_of_lt_of_le h.lt hV.size) fun e => h.hx e.symm)]
    exact hV.cell (p := ⟨X, k, none⟩) h.lt
  have sX : ∀ k, k ≠ 4 → (V'.setCell ⟨X, 4, none⟩ v').cell? ⟨X, k, none⟩ = V'.cell? ⟨X, k, none⟩ := fun k hk => by rw [World.cell?_setCell_other (h := fun e => hk (by injection e with _ e2 _; omega))]
  refine ⟨{ c0 := (sX 0 (by decide)).trans ((cX 0).trans h.c0), c1 := (sX 1 (by decide)).trans ((cX 1).trans h.c1), c2 := (sX 2 (by decide)).trans ((cX 2).trans h.c2), c3 := (sX 3 (by decide)).trans ((cX 3).trans h.c3)
            c4 := World.cell?_setCell_same _ _ _ ((cX 4).trans h.c4), fz := ?_, own := ?_, ok := ?_, hx := hne, lt := ?_, bs := ?_, small := by simp; omega }, (o1.trans o2).trans o3, hfr⟩
  · rw [World.frozen?_setCell]
    rw [World.frozen?_of_block (a := ⟨X, 4, none⟩) (hg.block X (Nat.lt_of_lt_of_le h.lt hV.size) fun e => h.hx e.symm)]
    exact (hV.frozen (p := ⟨X, 4, none⟩) h.lt).trans h.fz
  · have : (cellsB L ++ [Value.int .u32 (x.1 : Int), .int .u8 (x.2 : Int)]) = cellsB (L ++ [x]) := by rw [cellsB_append]; rfl
    rw [this] at hown
    rw [List.length_append]
    exact (out_set X 4 v' V').row hown fun j hj e => hne (by rw [hj]; exact congrArg some e)
  · intro y hy
    simp only [List.mem_append, List.mem_singleton] at hy
    rcases hy with hy | rfl
    · exact h.ok y hy
    · exact hx
  · rw [World.size_setCell]
    exact Nat.lt_of_lt_of_le h.lt (Nat.le_trans hV.size hg.size)
  · rw [World.size_setCell]
    exact Nat.le_trans h.bs (Nat.le_trans hV.size hg.size)
theorem lowB_get (k v m : Nat) (h : m < k) : (lowB k v)[m]? = some (v / 256 ^ m % 256) := by
  induction k generalizing v m with
  | zero => omega
  | succ k ih =>
    cases m with
    | zero => simp [lowB]
    | succ m => simp only [lowB, List.getElem?_cons_succ]; rw [ih _ _ (by omega), Nat.div_div_eq_div_mul, Nat.pow_succ, Nat.mul_comm 256]
theorem lowB_take (k v m : Nat) (h : m < k) : (lowB k v).take (m + 1) = (lowB k v).take m ++ [v / 256 ^ m % 256] := by
  rw [List.take_add_one, lowB_get k v m h]; rfl
theorem writes_take (L : List (Nat × Nat)) (a k v m : Nat) (h : m < k) : L ++ writes a ((lowB k v).take (m + 1)) = (L ++ writes a ((lowB k v).take m)) ++ [(a + m, v / 256 ^ m % 256)] := by
  rw [lowB_take k v m h, writes_snoc, List.append_assoc, List.length_take, lowB_length, Nat.min_eq_left (by omega)]
theorem news_two (W : World) (u1 u2 : Value) (t : TypeId) : ∀ j u, ([u1, u2] : List Value)[j]? = some u → (W.alloc (.cells #[u1, u2] t)).cell? ((⟨W.heap.size, 0, none⟩ : Addr).add j) = some u := by
  intro j u hj
  have e : (⟨W.heap.size, 0, none⟩ : Addr).add j = ⟨W.heap.size, j, none⟩ := by unfold Addr.add; split <;> simp_all
  rw [e, World.cell?_alloc_new]
  simpa using hj
theorem own_shape {W : World} {base size n : Nat} {t : TypeId} {v : Value} {xs : List Value} (h : W.ownsRow base t size v (n + 1) xs) : ∃ g cap, v = .slice (some ⟨g, 0, none⟩) (n + 1) cap := by
  rcases h.2 with ⟨_, h0⟩ | ⟨g, cap, cur, rfl, _⟩
  · omega
  · exact ⟨g, cap, rfl⟩
def StoreR (X B f n1 r n2 : Nat) (L : List (Nat × Nat)) (v : Value) (W : World) (z : Int) (e : Ending) (w' : World) : Prop := e = .returned (.int .i64 z) ∧ ∃ v', RefIs X B f n1 r n2 L v' w' ∧ Out (RS X v) W w' ∧ Fresh v v' W
set_option maxRecDepth 100000 in
set_option maxHeartbeats 2000000 in
theorem rstore_in1 {X B f n1 r n2 : Nat} {L : List (Nat × Nat)} {v : Value} {W : World} (h : RefIs X B f n1 r n2 L v W) (a x : Nat) (hx : x < 4294967296) (h0 : a % 1 = 0) (hak : a + 1 ≤ 4294967296) (hs : L.length + 4 ≤ 1000000) (hw : RamIs X a 1 true W) :
    Calls Try.prog 96 #[.pointer (some ⟨X, 0, none⟩), .int .u32 (a : Nat), .int .i64 1, .int .u32 (x : Nat)] W (StoreR X B f n1 r n2 (L ++ writes a (lowB 1 x)) v W 0) := by
  obtain ⟨i0, hi, hz0, hz1, hz2⟩ := info_parts info_byteR
  have HW := Lib.hid hw
  have RI := Lib.hid (fun W' (hl : LikeG W W') => h.like hl)
  have ha : a < 4294967296 := by omega
  clear h0 h hw
  go_enter Try.func96, Try.ntmps96
  go_wp2_with fail
  refine HW.out.mono ?_
  rintro e w1 ⟨rfl, hl⟩
  have H1 := Lib.hid (RI.out _ hl)
  have O1 := Lib.hid (hl.out (RS X v))
  have F1 := Lib.hid (Fresh.refl v W)
  clear hl HW RI
  go_wp2_with fail
  go_loopw [3, 9] (fun x3 i wr => ∃ (m : Nat) (v' : Value), m ≤ 1 ∧ i = .int .i64 m ∧ x3 = .int .u32 (x / 256 ^ m : Nat) ∧ RefIs X B f n1 r n2 (L ++ writes a ((lowB 1 x).take m)) v' wr ∧ Out (RS X v) W wr ∧ Fresh v v' W) (fun _ i _ => 1 - (intOf i).toNat)
  case atStart => exact ⟨0, v, by omega, rfl, by simp, by simpa [writes] using H1.out, O1.out, F1.out⟩
  case round =>
    obtain ⟨m, v', hm, rfl, rfl, hR, hO, hFr⟩ := hrel
    have HF := Lib.hid hFr
    clear hFr F1
    by_cases hlt : m < 1
    · have HR := Lib.hid hR
      have HO := Lib.hid hO
      have c4 := hR.c4
      have hlX := hR.lt
      have hBw : B ≤ wr.heap.size := hR.bs
      have hln : (L ++ writes a ((lowB 1 x).take m)).length + 1 ≤ 1000000 := by
        rw [List.length_append, writes_length, List.length_take]; omega
      have T := Lib.hid (writes_take L a 1 x m hlt)
      have hq : x / 256 ^ m < 4294967296 := Nat.lt_of_le_of_lt (Nat.div_le_self _ _) hx
      have EQ := Lib.hid (show x / 256 ^ (m + 1) = x / 256 ^ m / 256 by rw [Nat.div_div_eq_div_mul, Nat.pow_succ])
      generalize hQ : x / 256 ^ m = q at *
      clear hQ
      generalize hLL : L ++ writes a ((lowB 1 x).take m) = LL at *
      have OWN := Lib.hid (fun cs t => HR.out.own.alloc (.cells cs t))
      have NEWS := Lib.hid (news_two wr (.int .u32 ((a : Int) + (m : Int))) (.int .u8 ((q : Int) % 256)) 124)
      have FX := Lib.hid (show ∀ (cs : Array Value) (t : TypeId) (w2 : World), (wr.alloc (.cells cs t)).grownBy w2 v'.ownBlock → w2.cell? ⟨X, 4, none⟩ = some v' ∧ w2.frozen? ⟨X, 4, none⟩ = false from fun cs t w2 hg => by
        have e := hg.block X (by simp; omega) fun e => HR.out.hx e.symm
        have e2 : w2.heap[X]? = wr.heap[X]? := e.trans (heap_alloc_old _ _ hlX)
        exact ⟨(World.cell?_of_block (a := ⟨X, 4, none⟩) e2).trans HR.out.c4, (World.frozen?_of_block (a := ⟨X, 4, none⟩) e2).trans HR.out.fz⟩)
      have MO := Lib.hid (show ∀ (cs : Array Value) (t : TypeId) (w2 : World) (g cap : Nat), (wr.alloc (.cells cs t)).grownBy w2 v'.ownBlock → w2.ownsRow B 124 2 (.slice (some ⟨g, 0, none⟩) (LL.length + 1) cap) (LL.length + 1) (cellsB LL ++ [.int .u32 ((a : Int) + (m : Int)), .int .u8 ((q : Int) % 256)]) → (v'.ownBlock = some g ∨ g = wr.heap.size + 1) → _ from fun cs t w2 g cap hg ho ha =>
        HR.out.more (x := (a + m, q % 256)) (g := g) (cap := cap) ((Below.refl _ _).alloc (Nat.le_refl _) (.cells cs t)) ⟨by show a + m < 4294967296; omega, by show q % 256 < 256; omega⟩ hln (by simpa using ho) hg (by simpa using ha))
      have LEN := Lib.hid (show LL.length + 1 ≤ maxLen from Nat.le_trans hln (by decide))
      have BYT := Lib.hid (show (LL.length + 1) * 8 ≤ 140737488355328 by omega)
      have BAS := Lib.hid (show ∀ (cs : Array Value) (t : TypeId), B ≤ (wr.alloc (.cells cs t)).heap.size from fun cs t => by simp; omega)
      clear hR hO H1 O1 hLL hln hBw hlX
      go_wp2_with ((at_builtin; refine wpList_append_lies (wr.alloc (.cells #[.int .u32 ((a : Int) + (m : Int)), .int .u8 ((q : Int) % 256)] 124)) rfl (.tmp 39) (.tmp 48) 90 rfl B 124 i0 (.agg #[.int .u32 0, .int .u8 0]) 2 8 Try.underlying90 hi hz0 hz1 hz2 rfl (by decide) v' LL.length (cellsB LL) rfl (OWN.out _ _) ⟨wr.heap.size, 0, none⟩ 1 1 [.int .u32 ((a : Int) + (m : Int)), .int .u8 ((q : Int) % 256)] rfl rfl NEWS.out (by simp [Value.oneCell']) (by decide) LEN.out BYT.out (BAS.out _ _) (wr.heap.size + 1) (by simp) ?_; intro g2 cap2 w2 hown hg hat hlt2; have HG := Lib.hid hg; have HOWN := Lib.hid hown; have HAT := Lib.hid hat; obtain ⟨d4, z4⟩ := FX.out _ _ _ hg; clear hown hg hat hlt2))
      go_roundw
      case rel =>
        obtain ⟨m1, m2, m3⟩ := MO.out _ _ _ _ _ HG.out HOWN.out HAT.out
        exact ⟨m + 1, _, by omega, by go_num, by rw [EQ.out]; go_num, by rw [T.out]; exact m1, HO.out.chain HF.out m2, HF.out.trans m3 HO.out.size⟩
      case measure => first | (simp [intOf]; done) | (simp [intOf]; omega)
    · obtain rfl : m = 1 := by omega
      have HR := Lib.hid hR
      have HO := Lib.hid hO
      clear hR hO H1 O1 hlt
      go_wp2_with fail
      go_ret
      exact ⟨rfl, v', by have := HR.out; rwa [List.take_of_length_le (by rw [lowB_length]; omega)] at this, HO.out, HF.out⟩
set_option maxRecDepth 100000 in
set_option maxHeartbeats 2000000 in
theorem rstore_in2 {X B f n1 r n2 : Nat} {L : List (Nat × Nat)} {v : Value} {W : World} (h : RefIs X B f n1 r n2 L v W) (a x : Nat) (hx : x < 4294967296) (h0 : a % 2 = 0) (hak : a + 2 ≤ 4294967296) (hs : L.length + 4 ≤ 1000000) (hw : RamIs X a 2 true W) :
    Calls Try.prog 96 #[.pointer (some ⟨X, 0, none⟩), .int .u32 (a : Nat), .int .i64 2, .int .u32 (x : Nat)] W (StoreR X B f n1 r n2 (L ++ writes a (lowB 2 x)) v W 0) := by
  obtain ⟨i0, hi, hz0, hz1, hz2⟩ := info_parts info_byteR
  have HW := Lib.hid hw
  have RI := Lib.hid (fun W' (hl : LikeG W W') => h.like hl)
  have ha : a < 4294967296 := by omega
  have t : (((a : Int) % 2) == 0) = true := by simp; omega
  have t' : (((a : Int) % 2) != 0) = false := by simp; omega
  clear h0 h hw
  go_enter Try.func96, Try.ntmps96
  go_wp2_with fail
  refine HW.out.mono ?_
  rintro e w1 ⟨rfl, hl⟩
  have H1 := Lib.hid (RI.out _ hl)
  have O1 := Lib.hid (hl.out (RS X v))
  have F1 := Lib.hid (Fresh.refl v W)
  clear hl HW RI
  go_wp2_with fail
  go_loopw [3, 9] (fun x3 i wr => ∃ (m : Nat) (v' : Value), m ≤ 2 ∧ i = .int .i64 m ∧ x3 = .int .u32 (x / 256 ^ m : Nat) ∧ RefIs X B f n1 r n2 (L ++ writes a ((lowB 2 x).take m)) v' wr ∧ Out (RS X v) W wr ∧ Fresh v v' W) (fun _ i _ => 2 - (intOf i).toNat)
  case atStart => exact ⟨0, v, by omega, rfl, by simp, by simpa [writes] using H1.out, O1.out, F1.out⟩
  case round =>
    obtain ⟨m, v', hm, rfl, rfl, hR, hO, hFr⟩ := hrel
    have HF := Lib.hid hFr
    clear hFr F1
    by_cases hlt : m < 2
    · have HR := Lib.hid hR
      have HO := Lib.hid hO
      have c4 := hR.c4
      have hlX := hR.lt
      have hBw : B ≤ wr.heap.size := hR.bs
      have hln : (L ++ writes a ((lowB 2 x).take m)).length + 1 ≤ 1000000 := by
        rw [List.length_append, writes_length, List.length_take]; omega
      have T := Lib.hid (writes_take L a 2 x m hlt)
      have hq : x / 256 ^ m < 4294967296 := Nat.lt_of_le_of_lt (Nat.div_le_self _ _) hx
      have EQ := Lib.hid (show x / 256 ^ (m + 1) = x / 256 ^ m / 256 by rw [Nat.div_div_eq_div_mul, Nat.pow_succ])
      generalize hQ : x / 256 ^ m = q at *
      clear hQ
      generalize hLL : L ++ writes a ((lowB 2 x).take m) = LL at *
      have OWN := Lib.hid (fun cs t => HR.out.own.alloc (.cells cs t))
      have NEWS := Lib.hid (news_two wr (.int .u32 ((a : Int) + (m : Int))) (.int .u8 ((q : Int) % 256)) 124)
      have FX := Lib.hid (show ∀ (cs : Array Value) (t : TypeId) (w2 : World), (wr.alloc (.cells cs t)).grownBy w2 v'.ownBlock → w2.cell? ⟨X, 4, none⟩ = some v' ∧ w2.frozen? ⟨X, 4, none⟩ = false from fun cs t w2 hg => by
        have e := hg.block X (by simp; omega) fun e => HR.out.hx e.symm
        have e2 : w2.heap[X]? = wr.heap[X]? := e.trans (heap_alloc_old _ _ hlX)
        exact ⟨(World.cell?_of_block (a := ⟨X, 4, none⟩) e2).trans HR.out.c4, (World.frozen?_of_block (a := ⟨X, 4, none⟩) e2).trans HR.out.fz⟩)
      have MO := Lib.hid (show ∀ (cs : Array Value) (t : TypeId) (w2 : World) (g cap : Nat), (wr.alloc (.cells cs t)).grownBy w2 v'.ownBlock → w2.ownsRow B 124 2 (.slice (some ⟨g, 0, none⟩) (LL.length + 1) cap) (LL.length + 1) (cellsB LL ++ [.int .u32 ((a : Int) + (m : Int)), .int .u8 ((q : Int) % 256)]) → (v'.ownBlock = some g ∨ g = wr.heap.size + 1) → _ from fun cs t w2 g cap hg ho ha =>
        HR.out.more (x := (a + m, q % 256)) (g := g) (cap := cap) ((Below.refl _ _).alloc (Nat.le_refl _) (.cells cs t)) ⟨by show a + m < 4294967296; omega, by show q % 256 < 256; omega⟩ hln (by simpa using ho) hg (by simpa using ha))
      have LEN := Lib.hid (show LL.length + 1 ≤ maxLen from Nat.le_trans hln (by decide))
      have BYT := Lib.hid (show (LL.length + 1) * 8 ≤ 140737488355328 by omega)
      have BAS := Lib.hid (show ∀ (cs : Array Value) (t : TypeId), B ≤ (wr.alloc (.cells cs t)).heap.size from fun cs t => by simp; omega)
      clear hR hO H1 O1 hLL hln hBw hlX
      go_wp2_with ((at_builtin; refine wpList_append_lies (wr.alloc (.cells #[.int .u32 ((a : Int) + (m : Int)), .int .u8 ((q : Int) % 256)] 124)) rfl (.tmp 39) (.tmp 48) 90 rfl B 124 i0 (.agg #[.int .u32 0, .int .u8 0]) 2 8 Try.underlying90 hi hz0 hz1 hz2 rfl (by decide) v' LL.length (cellsB LL) rfl (OWN.out _ _) ⟨wr.heap.size, 0, none⟩ 1 1 [.int .u32 ((a : Int) + (m : Int)), .int .u8 ((q : Int) % 256)] rfl rfl NEWS.out (by simp [Value.oneCell']) (by decide) LEN.out BYT.out (BAS.out _ _) (wr.heap.size + 1) (by simp) ?_; intro g2 cap2 w2 hown hg hat hlt2; have HG := Lib.hid hg; have HOWN := Lib.hid hown; have HAT := Lib.hid hat; obtain ⟨d4, z4⟩ := FX.out _ _ _ hg; clear hown hg hat hlt2))
      go_roundw
      case rel =>
        obtain ⟨m1, m2, m3⟩ := MO.out _ _ _ _ _ HG.out HOWN.out HAT.out
        exact ⟨m + 1, _, by omega, by go_num, by rw [EQ.out]; go_num, by rw [T.out]; exact m1, HO.out.chain HF.out m2, HF.out.trans m3 HO.out.size⟩
      case measure => first | (simp [intOf]; done) | (simp [intOf]; omega)
    · obtain rfl : m = 2 := by omega
      have HR := Lib.hid hR
      have HO := Lib.hid hO
      clear hR hO H1 O1 hlt
      go_wp2_with fail
      go_ret
      exact ⟨rfl, v', by have := HR.out; rwa [List.take_of_length_le (by rw [lowB_length]; omega)] at this, HO.out, HF.out⟩
set_option maxRecDepth 100000 in
set_option maxHeartbeats 2000000 in
theorem rstore_in4 {X B f n1 r n2 : Nat} {L : List (Nat × Nat)} {v : Value} {W : World} (h : RefIs X B f n1 r n2 L v W) (a x : Nat) (hx : x < 4294967296) (h0 : a % 4 = 0) (hak : a + 4 ≤ 4294967296) (hs : L.length + 4 ≤ 1000000) (hw : RamIs X a 4 true W) :
    Calls Try.prog 96 #[.pointer (some ⟨X, 0, none⟩), .int .u32 (a : Nat), .int .i64 4, .int .u32 (x : Nat)] W (StoreR X B f n1 r n2 (L ++ writes a (lowB 4 x)) v W 0) := by
  obtain ⟨i0, hi, hz0, hz1, hz2⟩ := info_parts info_byteR
  have HW := Lib.hid hw
  have RI := Lib.hid (fun W' (hl : LikeG W W') => h.like hl)
  have ha : a < 4294967296 := by omega
  have t : (((a : Int) % 4) == 0) = true := by simp; omega
  have t' : (((a : Int) % 4) != 0) = false := by simp; omega
  clear h0 h hw
  go_enter Try.func96, Try.ntmps96
  go_wp2_with fail
  refine HW.out.mono ?_
  rintro e w1 ⟨rfl, hl⟩
  have H1 := Lib.hid (RI.out _ hl)
  have O1 := Lib.hid (hl.out (RS X v))
  have F1 := Lib.hid (Fresh.refl v W)
  clear hl HW RI
  go_wp2_with fail
  go_loopw [3, 9] (fun x3 i wr => ∃ (m : Nat) (v' : Value), m ≤ 4 ∧ i = .int .i64 m ∧ x3 = .int .u32 (x / 256 ^ m : Nat) ∧ RefIs X B f n1 r n2 (L ++ writes a ((lowB 4 x).take m)) v' wr ∧ Out (RS X v) W wr ∧ Fresh v v' W) (fun _ i _ => 4 - (intOf i).toNat)
  case atStart => exact ⟨0, v, by omega, rfl, by simp, by simpa [writes] using H1.out, O1.out, F1.out⟩
  case round =>
    obtain ⟨m, v', hm, rfl, rfl, hR, hO, hFr⟩ := hrel
    have HF := Lib.hid hFr
    clear hFr F1
    by_cases hlt : m < 4
    · have HR := Lib.hid hR
      have HO := Lib.hid hO
      have c4 := hR.c4
      have hlX := hR.lt
      have hBw : B ≤ wr.heap.size := hR.bs
      have hln : (L ++ writes a ((lowB 4 x).take m)).length + 1 ≤ 1000000 := by
        rw [List.length_append, writes_length, List.length_take]; omega
      have T := Lib.hid (writes_take L a 4 x m hlt)
      have hq : x / 256 ^ m < 4294967296 := Nat.lt_of_le_of_lt (Nat.div_le_self _ _) hx
      have EQ := Lib.hid (show x / 256 ^ (m + 1) = x / 256 ^ m / 256 by rw [Nat.div_div_eq_div_mul, Nat.pow_succ])
      generalize hQ : x / 256 ^ m = q at *
      clear hQ
      generalize hLL : L ++ writes a ((lowB 4 x).take m) = LL at *
      have OWN := Lib.hid (fun cs t => HR.out.own.alloc (.cells cs t))
      have NEWS := Lib.hid (news_two wr (.int .u32 ((a : Int) + (m : Int))) (.int .u8 ((q : Int) % 256)) 124)
      have FX := Lib.hid (show ∀ (cs : Array Value) (t : TypeId) (w2 : World), (wr.alloc (.cells cs t)).grownBy w2 v'.ownBlock → w2.cell? ⟨X, 4, none⟩ = some v' ∧ w2.frozen? ⟨X, 4, none⟩ = false from fun cs t w2 hg => by
        have e := hg.block X (by simp; omega) fun e => HR.out.hx e.symm
        have e2 : w2.heap[X]? = wr.heap[X]? := e.trans (heap_alloc_old _ _ hlX)
        exact ⟨(World.cell?_of_block (a := ⟨X, 4, none⟩) e2).trans HR.out.c4, (World.frozen?_of_block (a := ⟨X, 4, none⟩) e2).trans HR.out.fz⟩)
      have MO := Lib.hid (show ∀ (cs : Array Value) (t : TypeId) (w2 : World) (g cap : Nat), (wr.alloc (.cells cs t)).grownBy w2 v'.ownBlock → w2.ownsRow B 124 2 (.slice (some ⟨g, 0, none⟩) (LL.length + 1) cap) (LL.length + 1) (cellsB LL ++ [.int .u32 ((a : Int) + (m : Int)), .int .u8 ((q : Int) % 256)]) → (v'.ownBlock = some g ∨ g = wr.heap.size + 1) → _ from fun cs t w2 g cap hg ho ha =>
        HR.out.more (x := (a + m, q % 256)) (g := g) (cap := cap) ((Below.refl _ _).alloc (Nat.le_refl _) (.cells cs t)) ⟨by show a + m < 4294967296; omega, by show q % 256 < 256; omega⟩ hln (by simpa using ho) hg (by simpa using ha))
      have LEN := Lib.hid (show LL.length + 1 ≤ maxLen from Nat.le_trans hln (by decide))
      have BYT := Lib.hid (show (LL.length + 1) * 8 ≤ 140737488355328 by omega)
      have BAS := Lib.hid (show ∀ (cs : Array Value) (t : TypeId), B ≤ (wr.alloc (.cells cs t)).heap.size from fun cs t => by simp; omega)
      clear hR hO H1 O1 hLL hln hBw hlX
      go_wp2_with ((at_builtin; refine wpList_append_lies (wr.alloc (.cells #[.int .u32 ((a : Int) + (m : Int)), .int .u8 ((q : Int) % 256)] 124)) rfl (.tmp 39) (.tmp 48) 90 rfl B 124 i0 (.agg #[.int .u32 0, .int .u8 0]) 2 8 Try.underlying90 hi hz0 hz1 hz2 rfl (by decide) v' LL.length (cellsB LL) rfl (OWN.out _ _) ⟨wr.heap.size, 0, none⟩ 1 1 [.int .u32 ((a : Int) + (m : Int)), .int .u8 ((q : Int) % 256)] rfl rfl NEWS.out (by simp [Value.oneCell']) (by decide) LEN.out BYT.out (BAS.out _ _) (wr.heap.size + 1) (by simp) ?_; intro g2 cap2 w2 hown hg hat hlt2; have HG := Lib.hid hg; have HOWN := Lib.hid hown; have HAT := Lib.hid hat; obtain ⟨d4, z4⟩ := FX.out _ _ _ hg; clear hown hg hat hlt2))
      go_roundw
      case rel =>
        obtain ⟨m1, m2, m3⟩ := MO.out _ _ _ _ _ HG.out HOWN.out HAT.out
        exact ⟨m + 1, _, by omega, by go_num, by rw [EQ.out]; go_num, by rw [T.out]; exact m1, HO.out.chain HF.out m2, HF.out.trans m3 HO.out.size⟩
      case measure => first | (simp [intOf]; done) | (simp [intOf]; omega)
    · obtain rfl : m = 4 := by omega
      have HR := Lib.hid hR
      have HO := Lib.hid hO
      clear hR hO H1 O1 hlt
      go_wp2_with fail
      go_ret
      exact ⟨rfl, v', by have := HR.out; rwa [List.take_of_length_le (by rw [lowB_length]; omega)] at this, HO.out, HF.out⟩
end Go.Proofs.Ytghclbeoabkgcaa
