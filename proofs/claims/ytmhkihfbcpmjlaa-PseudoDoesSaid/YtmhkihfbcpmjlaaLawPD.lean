/- The statement PseudoDoes of layer 12 (instructions that stand for several): it returns true for all inputs. -/
import Derived.Test.YtmhkihfbcpmjlaaRows
import Derived.Test.YtmhkihfbcpmjlaaDoesQ
namespace Go.Proofs.Ytmhkihfbcpmjlaa
open Pl Go Go.RowKit Go.ChangeShapes Go.WideShapes Go.ChangeAt
set_option linter.unusedVariables false


theorem own_l5 {w : World} {base : Nat} {v : Value} {l : List Q5} (h : OwnIns w base v l) (hl : l.length ≤ 3) : ∃ a c, v = .slice a l.length c ∧ L5 w a l := by
  obtain ⟨a, c, h1, h2, _⟩ := l5_own h rfl (by omega)
  exact ⟨a, c, h1, h2⟩
theorem bt {w a b : World} (h : Below w.heap.size w a) (k : Below a.heap.size a b) : Below w.heap.size w b := h.trans (k.mono h.size)
theorem set_lives : setS 5 2048 = [⟨42, 5, 0, 0, 4096⟩, ⟨19, 5, 5, 0, -2048⟩] := by
  rw [set_two (by omega) (by omega) (by rw [low_eq]; decide), low_eq, show wrap32 (2048 - ((2048 + 2048) % 4096 - 2048)) = 4096 by unfold wrap32; omega]; rfl
theorem wf_i32 {a : Int} (h : (Lit.int .i32 a).wf = true) : -2147483648 ≤ a ∧ a ≤ 2147483647 := by
  simpa [Lit.wf, IntKind.min, IntKind.max, IntKind.signed, IntKind.bits] using h

set_option maxRecDepth 100000 in
set_option maxHeartbeats 400000 in
theorem law12_lives (w : World) : Calls Try.prog 9 #[] w fun e w' => e = .returned (.bool true) ∧ Below w.heap.size w w' := by
  go_enter Try.func9, Try.ntmps9
  go_wp2_with fail
  refine (set_any 5 2048 w (by omega)).mono ?_
  rw [set_lives]
  rintro e w1 ⟨v, rfl, hown, hb⟩
  obtain ⟨a, c, rfl, hl⟩ := own_l5 hown (by simp)
  have HB := Lib.hid hb
  have HL := Lib.hid hl
  clear hb hl hown
  go_wp2_with fail
  refine (same_eq a (some ⟨w1.heap.size, 0, none⟩) c 2 [⟨42, 5, 0, 0, 4096⟩, ⟨19, 5, 5, 0, -2048⟩] _ (HL.out.later ?h1) (l5_lit w1 _ _ _ rfl _ rfl (by simp))).mono ?_
  case h1 => go_grown
  rintro e w2 ⟨rfl, n, rfl⟩
  go_wp2_with fail
  go_ret
  exact ⟨rfl, bt HB.out (below_drewN (by go_grown) n)⟩



/-- an array of 32 words in its block -/
structure Row32 (B : Nat) (f : Int → Int) (w : World) : Prop where
  v : ∀ k : Nat, k < 32 → w.cell? ⟨B, k, none⟩ = some (.int .u32 (f (k : Int)))
  fz : ∀ k, k < 32 → w.frozen? ⟨B, k, none⟩ = false
  hp : ∃ cs : Array Value, w.heap[B]? = some (.cells cs 24 (0, 0)) ∧ cs.size = 32
  lt : B < w.heap.size
theorem Row32.grown {B : Nat} {f : Int → Int} {w w' : World} (h : Row32 B f w) (hb : Below w.heap.size w w') : Row32 B f w' :=
  ⟨fun k hk => (hb.cell (by exact h.lt)).trans (h.v k hk), fun k hk => (hb.frozen (by exact h.lt)).trans (h.fz k hk), by obtain ⟨cs, h1, h2⟩ := h.hp; exact ⟨cs, (hb.block B h.lt).trans h1, h2⟩, Nat.lt_of_lt_of_le h.lt hb.size⟩
theorem Row32.congr {B : Nat} {f g : Int → Int} {w : World} (h : Row32 B f w) (e : ∀ k : Nat, k < 32 → f (k : Int) = g (k : Int)) : Row32 B g w :=
  ⟨fun k hk => by rw [← e k hk]; exact h.v k hk, h.fz, h.hp, h.lt⟩
theorem row32_set {B D : Nat} {f : Int → Int} {x : Int} {w : World} (h : Row32 B f w) (hD : D < 32) : Row32 B (updF f (D : Int) x) (w.setCell ⟨B, D, none⟩ (.int .u32 x)) := by
  refine ⟨fun k hk => ?_, fun k hk => ?_, ?_, ?_⟩
  · unfold updF
    by_cases g : k = D
    · subst g; rw [if_pos rfl]; exact World.cell?_setCell_same _ _ _ (h.v k hk)
    · rw [if_neg (by omega), World.cell?_setCell_other (h := fun e => g (by injection e with _ e2 _; omega))]; exact h.v k hk
  · rw [World.frozen?_setCell]; exact h.fz k hk
  · obtain ⟨cs, h1, h2⟩ := h.hp
    refine ⟨cs.setIfInBounds D (.int .u32 x), ?_, by simpa using h2⟩
    rw [setCell_eq_setRow w B D cs _ (0, 0) _ h1, setRow_heap w B _ _ _ _ h1]
  · rw [World.size_setCell]; exact h.lt
theorem row32_range {B : Nat} {f : Int → Int} {w : World} (h : Row32 B f w) : w.rangeAt B 0 (cellsR f) := fun j v hj => by
  obtain ⟨hjl, _⟩ := List.getElem?_eq_some_iff.1 hj
  rw [cellsR_len] at hjl
  rw [cellsR_at _ hjl] at hj
  cases hj
  rw [Nat.zero_add]
  exact h.v j hjl
theorem row32_setRow {f : Int → Int} {W : World} {g : Nat} {old : Array Value} (hg : W.heap[g]? = some (.cells old 24 (0, 0))) : Row32 g f (W.setRow g (cellsR f).toArray) := by
  have h := setRow_heap W g old (cellsR f).toArray _ (0, 0) hg
  refine ⟨fun k hk => ?_, fun k hk => by simp [World.frozen?, h], ⟨_, h, by simp [cellsR_len]⟩, (Array.getElem?_eq_some_iff.1 h).1⟩
  rw [cell_of_row _ _ _ _ _ _ h]
  simpa using cellsR_at f hk
def zr32 : Array Value := Array.replicate 32 (.int .u32 0)
theorem zr32_one : zr32.all (·.oneCell') = true := by kernel_rfl
theorem row32_zero {W : World} {g : Nat} {old : Array Value} (hg : W.heap[g]? = some (.cells old 24 (0, 0))) : Row32 g (fun _ => 0) (W.setRow g zr32) := by
  have h := setRow_heap W g old zr32 _ (0, 0) hg
  refine ⟨fun k hk => ?_, fun k hk => by simp [World.frozen?, h], ⟨_, h, by simp [zr32]⟩, (Array.getElem?_eq_some_iff.1 h).1⟩
  rw [cell_of_row _ _ _ _ _ _ h]
  unfold zr32
  rw [Array.getElem?_replicate, if_pos hk]
theorem below_setRow {m : Nat} {w W : World} {g : Nat} {cs : Array Value} (h : Below m w W) (hm : m ≤ g) : Below m w (W.setRow g cs) :=
  ⟨h.os, h.tape, h.output, by have := h.size; simp [World.setRow]; omega, fun i hi => (setRow_other _ _ _ _ (by omega)).trans (h.block i hi)⟩
theorem range_later {B o : Nat} {cs : List Value} {w w' : World} (h : w.rangeAt B o cs) (hb : Below w.heap.size w w') (hl : B < w.heap.size) : w'.rangeAt B o cs :=
  fun j v hj => (hb.cell (p := ⟨B, o + j, none⟩) hl).trans (h j v hj)
theorem set_pos {rd n : Int} (hr : 1 ≤ rd ∧ rd < 32) : 1 ≤ (setS rd n).length := by
  unfold setS
  rw [if_pos hr]
  split
  · simp
  · split <;> simp
theorem row32_other {B g : Nat} {f : Int → Int} {cs : Array Value} {w : World} (h : Row32 B f w) (hne : B ≠ g) : Row32 B f (w.setRow g cs) := by
  have e := setRow_other w g B cs hne
  refine ⟨fun k hk => (World.cell?_of_block (w := w) e).trans (h.v k hk), fun k hk => (World.frozen?_of_block (w := w) e).trans (h.fz k hk), ?_, ?_⟩
  · obtain ⟨cs', h1, h2⟩ := h.hp
    exact ⟨cs', e.trans h1, h2⟩
  · have := h.lt; simp [World.setRow]; exact this
theorem wpList_load_midG {P : Program} {ops : Array Oper} {rest : List Oper} {op : Oper} {a : Act} {w : World} {Q : Exit → Act → World → Prop} (hw : Region.wanted op (yielded ops a.tmps) = true) (ty : TypeId) (x : Operand) (ho : op.op = .load ty x)
    (b o : Nat) (hx : a.eval x = .pointer (some ⟨b, o, none⟩)) (cs : List Value) (d : TypeDesc) (hc : w.rangeAt b o cs)
    (hu : P.underlying ty = some d) (hd : d.isRow = true) (hi : (P.info? ty).map (·.size) = some cs.length)
    (h : wpList P ops Q rest (a.put op.dst (.agg cs.toArray)) w) : wpList P ops Q (op :: rest) a w := by
  unfold wpList
  rw [if_pos hw]
  exact Or.inl (wp_load_mid ty x ho b o hx cs d hc hu hd hi h)
/-- blocks from one on are as they were -/
def Kept (m : Nat) (w w' : World) : Prop := w.heap.size ≤ w'.heap.size ∧ ∀ i, m ≤ i → i < w.heap.size → w'.heap[i]? = w.heap[i]?
theorem add_len (rd rs n b : Int) : (addS rd rs n b).length ≤ 3 := by
  unfold addS
  split
  · split
    · simp
    · have := set_len b n; simp; omega
  · simp
theorem add_key (f N2 : Int → Int) (l : List Q5) (w6 w7 : World) (v : Value) (own : OwnIns w7 w6.heap.size v l) (hf : Words f) (hok : ∀ x ∈ l, Okd x) (hln : l.length ≤ 3) (hN : doesD f l = N2) :
    ∃ X L C, v = .slice X L C ∧ (∀ w', Below w7.heap.size w7 w' → Calls Try.prog 5 #[.agg (cellsR f).toArray, .slice X L C] w' fun e w'' => e = .returned (.agg (cellsR N2).toArray) ∧ Below w'.heap.size w' w'') ∧
      (∀ w', Kept w6.heap.size w7 w' → Calls Try.prog 7 #[.slice X L C] w' fun e w'' => e = .returned (.bool true) ∧ Below w'.heap.size w' w'') := by
  by_cases h0 : l = []
  · subst h0
    obtain ⟨a, c, rfl⟩ := own_none own
    subst hN
    exact ⟨a, 0, c, rfl, fun w' _ => does_nil f a c w', fun w' _ => can_nil a c w'⟩
  · have h1 : 1 ≤ l.length := by cases l with | nil => exact absurd rfl h0 | cons _ _ => simp
    have own' := own
    obtain ⟨g, c, rfl, h5, hg⟩ := own_some own hln h1
    have hge : w6.heap.size ≤ g := by
      obtain ⟨_, ⟨hv, hn⟩ | ⟨g', cap, cur, hv, hg', _⟩⟩ := own'
      · omega
      · injection hv with e1 _ _
        injection e1 with e2
        injection e2 with e3 _ _
        omega
    subst hN
    refine ⟨_, _, _, rfl, fun w' hb => does_any f g 0 c l w' hf (h5.later hb) (Nat.lt_of_lt_of_le hg hb.size) (by omega) hok, fun w' hk => can_yes g 0 c l w' ?_ (Nat.lt_of_lt_of_le hg hk.1) (by omega) hok⟩
    have e := hk.2 g hge hg
    obtain ⟨q1, q2 | ⟨b, o, eq, hlt, hc⟩⟩ := h5
    · exact ⟨q1, Or.inl q2⟩
    · obtain ⟨rfl, rfl⟩ : g = b ∧ 0 = o := by simpa using eq
      refine ⟨q1, Or.inr ⟨g, 0, rfl, Nat.lt_of_lt_of_le hg hk.1, fun k x hx => ?_⟩⟩
      obtain ⟨c0, c1, c2, c3, c4⟩ := hc k x hx
      exact ⟨(World.cell?_of_block (w := w7) e).trans c0, (World.cell?_of_block (w := w7) e).trans c1, (World.cell?_of_block (w := w7) e).trans c2, (World.cell?_of_block (w := w7) e).trans c3, (World.cell?_of_block (w := w7) e).trans c4⟩
/-- the registers that the law begins with -/
def wasF (u : Int) (k : Int) : Int := if 1 ≤ k ∧ k < 32 then (u + k * 77) % 4294967296 else 0
theorem was_words (u : Int) : Words (wasF u) := by intro k; unfold wasF; split <;> omega
theorem was_zero (u : Int) : wasF u 0 = 0 := rfl
theorem was_upd (u : Int) (k j : Nat) (hk : 1 ≤ k ∧ k < 32) (hj : j < 32) : updF (fun i => if i < (k : Int) then wasF u i else 0) (k : Int) (wasF u (k : Int)) (j : Int) = if (j : Int) < ((k + 1 : Nat) : Int) then wasF u (j : Int) else 0 := by
  unfold updF
  by_cases h : (j : Int) = (k : Int)
  · rw [if_pos h, if_pos (by omega), h]
  · rw [if_neg h]
    show (if (j : Int) < (k : Int) then wasF u (j : Int) else 0) = _
    by_cases g : (j : Int) < (k : Int)
    · rw [if_pos g, if_pos (by omega)]
    · rw [if_neg g, if_neg (by omega)]

set_option maxRecDepth 100000 in
set_option maxHeartbeats 4000000 in
theorem walk_PseudoDoes (n u p q r : Int) (wn : (Lit.int .i32 n).wf = true) (wu : (Lit.int .u32 u).wf = true) (wp : (Lit.int .u8 p).wf = true) (wq : (Lit.int .u8 q).wf = true) (wr : (Lit.int .u8 r).wf = true) (w : World) :
    Calls Try.prog 3 #[.int .i32 n, .int .u32 u, .agg #[.int .u8 p, .int .u8 q, .int .u8 r]] w fun e w' => e = .returned (.bool true) ∧ Below w.heap.size w w' := by
  have hn := wf_i32 wn
  have hu : 0 ≤ u ∧ u ≤ 4294967295 := by simpa [Lit.wf, IntKind.min, IntKind.max, IntKind.signed, IntKind.bits] using wu
  have hp : 0 ≤ p ∧ p ≤ 255 := by simpa [Lit.wf, IntKind.min, IntKind.max, IntKind.signed, IntKind.bits] using wp
  have hq : 0 ≤ q ∧ q ≤ 255 := by simpa [Lit.wf, IntKind.min, IntKind.max, IntKind.signed, IntKind.bits] using wq
  have hr : 0 ≤ r ∧ r ≤ 255 := by simpa [Lit.wf, IntKind.min, IntKind.max, IntKind.signed, IntKind.bits] using wr
  clear wn wu wp wq wr
  go_enter Try.func3, Try.ntmps3
  go_wp2_with fail
  go_region
  have bR : 1 ≤ 1 + p % 31 ∧ 1 + p % 31 < 32 := by omega
  have bS : 0 ≤ q % 32 ∧ q % 32 < 32 := by omega
  have bB : 1 ≤ 1 + r % 31 ∧ 1 + r % 31 < 32 := by omega
  obtain ⟨R, eR⟩ : ∃ R : Nat, 1 + p % 31 = R := ⟨(1 + p % 31).toNat, by omega⟩
  obtain ⟨S, eS⟩ : ∃ S : Nat, q % 32 = S := ⟨(q % 32).toNat, by omega⟩
  obtain ⟨B, eB⟩ : ∃ B : Nat, 1 + r % 31 = B := ⟨(1 + r % 31).toNat, by omega⟩
  rw [eR, eS, eB]
  rw [eR] at bR
  rw [eS] at bS
  rw [eB] at bB
  clear eR eS eB hp hq hr
  have B0 := Lib.hid (show Below w.heap.size w (w.alloc (.cells #[.int .u8 p, .int .u8 q, .int .u8 r] 23)).drew from ((Below.refl _ _).alloc (Nat.le_refl _) _).drew)
  generalize World.drew (World.alloc _ _) = WA at *
  have SZZ := Lib.hid (show (Try.prog.info? 24).map (·.size) = some zr32.size by kernel_rfl)
  have ONEZ := Lib.hid zr32_one
  have HBR := Lib.hid bR
  have HBS := Lib.hid bS
  have HBB := Lib.hid bB
  go_wp2_with ((refine wpList_store_row rfl 24 (.tmp 10) (.tmp 28) rfl WA.heap.size zr32 rfl rfl 24 _ (heap_alloc_new _ _) SZZ.out rfl ONEZ.out ?_; generalize hWZ : World.setRow _ _ zr32 = WZ; have RZ := Lib.hid (show Row32 WA.heap.size (fun _ => 0) WZ by rw [← hWZ]; exact row32_zero (heap_alloc_new _ _)); have BZ := Lib.hid (show Below WA.heap.size WA WZ by rw [← hWZ]; exact below_setRow ((Below.refl _ _).alloc (Nat.le_refl _) _) (Nat.le_refl _)); clear hWZ))
  go_loopw [11] (fun i wr => ∃ k : Nat, 1 ≤ k ∧ k ≤ 32 ∧ i = .int .i64 k ∧ Row32 WA.heap.size (fun j => if j < (k : Int) then wasF u j else 0) wr ∧ Below WA.heap.size WA wr) (fun i _ => 32 - (intOf i).toNat)
  case atStart =>
    refine ⟨1, by omega, by omega, rfl, RZ.out.congr (fun j hj => ?_), BZ.out⟩
    by_cases h : (j : Int) < ((1 : Nat) : Int)
    · rw [if_pos h, show (j : Int) = 0 by omega]; rfl
    · rw [if_neg h]
  case round =>
    obtain ⟨k, hk1, hk, rfl, hrw, hb⟩ := hrel
    by_cases hlt : k < 32
    · have d0 := hrw.v k hlt
      have dz := hrw.fz k hlt
      have t3 : decide ((k : Int) < 32) = true := by simp; omega
      have u1 := IntWalk.i64_in ((k : Int) + 1) (by omega)
      have g0 : (0 : Int) ≤ (k : Int) := by omega
      have g1 : (k : Int) < 32 := by omega
      have HR := Lib.hid hrw
      have HB := Lib.hid hb
      have WV := Lib.hid (show (u + (k : Int) * 77) % 4294967296 = wasF u (k : Int) by unfold wasF; rw [if_pos (by omega)])
      clear hrw hb
      go_wp2_with fail
      refine ⟨⟨k + 1, by omega, by omega, rfl, (row32_set HR.out hlt).congr (fun j hj => ?_), HB.out.setCell (Nat.le_refl _) _⟩, by simp [intOf]; omega⟩
      rw [WV.out]
      exact was_upd u k j (by omega) hj
    · obtain rfl : k = 32 := by omega
      have t3 : decide (((32 : Nat) : Int) < 32) = false := by simp
      have HR := Lib.hid (hrw.congr (g := wasF u) (fun j hj => by rw [if_pos (by omega)]))
      have HB := Lib.hid hb
      have W0 := was_zero u
      have WW := Lib.hid (was_words u)
      have SD := Lib.hid (fun k => set_does (f := wasF u) (rd := (R : Int)) (n := n) W0 bR k)
      have SO := Lib.hid (set_ok (rd := (R : Int)) (n := n) bR hn)
      have SL := Lib.hid (show 1 ≤ (setS (R : Int) n).length ∧ (setS (R : Int) n).length ≤ 2 from ⟨set_pos bR, set_len _ _⟩)
      have SA := Lib.hid (fun w => set_any (R : Int) n w hn)
      have SZW := Lib.hid (show (Try.prog.info? 24).map (·.size) = some (cellsR (wasF u)).length by rw [cellsR_len]; kernel_rfl)
      obtain ⟨lS, hlS⟩ : ∃ l, setS (R : Int) n = l := ⟨_, rfl⟩
      rw [hlS] at SD SO SL SA
      clear hlS hrw hb W0 t3
      have t3 : decide (((32 : Nat) : Int) < 32) = false := by simp
      go_wp2_with fail
      refine (SA.out _).mono ?_
      rintro e w2 ⟨v, rfl, hown, b2⟩
      obtain ⟨g, c, rfl, hl5, hlg⟩ := own_some hown (by have := SL.out; omega) SL.out.1
      have HR2 := Lib.hid (HR.out.grown b2)
      have HB2 := Lib.hid (HB.out.trans (b2.mono HB.out.size))
      have L2 := Lib.hid hl5
      have G2 := Lib.hid hlg
      have RG2 := Lib.hid (row32_range HR2.out)
      clear hown b2 hl5 hlg
      go_wp2_with ((refine wpList_load_mid rfl 24 (.tmp 10) rfl WA.heap.size 0 rfl (cellsR (wasF u)) _ RG2.out Try.underlying24 rfl SZW.out ?_))
      refine (does_any (wasF u) g 0 c lS _ WW.out L2.out G2.out (by have := SL.out; omega) SO.out).mono ?_
      rintro e w3 ⟨rfl, b3⟩
      obtain ⟨N1, hN1⟩ : ∃ N, doesD (wasF u) lS = N := ⟨_, rfl⟩
      rw [hN1] at SD
      rw [hN1]
      have HR3 := Lib.hid (HR2.out.grown b3)
      have HB3 := Lib.hid (HB2.out.trans (b3.mono HB2.out.size))
      have L3 := Lib.hid (L2.out.later b3)
      have G3 := Lib.hid (Nat.lt_of_lt_of_le G2.out b3.size)
      have SZG := Lib.hid (show (Try.prog.info? 24).map (·.size) = some (cellsR N1).toArray.size by simp only [List.size_toArray, cellsR_len]; kernel_rfl)
      have E32 := Lib.hid (show 32 = (cellsR N1).toArray.size by simp [cellsR_len])
      have ONEG := Lib.hid (cellsR_one N1)
      have SZN := Lib.hid (show (Try.prog.info? 24).map (·.size) = some (cellsR N1).length by rw [cellsR_len]; kernel_rfl)
      clear hN1 b3
      have OTH := Lib.hid (fun w => others_yes (wasF u) N1 R R w (fun k _ _ h1 _ => by rw [SD.out k, if_neg h1]))
      have n1 : (N1 (R : Int) != n % 4294967296) = false := by rw [SD.out, if_pos rfl]; simp
      have n2 : (N1 (R : Int) != IntKind.u32.wrap n) = false := by rw [IntKind.wrap_u32]; exact n1
      have l1 : decide ((lS.length : Int) < 1) = false := by have := SL.out; simp; omega
      have l2 : decide (2 < (lS.length : Int)) = false := by have := SL.out; simp; omega
      have qR0 : (0 : Int) ≤ (R : Int) := by omega
      have qR1 : (R : Int) < 32 := by omega
      have AD := Lib.hid (fun w => add_any (R : Int) (S : Int) n (B : Int) w hn)
      clear bR bS bB
      cases hBS : ((B : Int) == (S : Int))
      · go_wp2_with (first | (refine wpList_store_row rfl 24 (.tmp 13) (.tmp 45) rfl w3.heap.size (cellsR N1).toArray rfl rfl 24 _ (heap_alloc_new _ _) SZG.out E32.out ONEG.out ?_; generalize hWY : World.setRow _ _ (cellsR N1).toArray = WY; have RY := Lib.hid (show Row32 w3.heap.size N1 WY by rw [← hWY]; exact row32_setRow (heap_alloc_new _ _)); have BY := Lib.hid (show Below w3.heap.size w3 WY by rw [← hWY]; exact below_setRow ((Below.refl _ _).alloc (Nat.le_refl _) _) (Nat.le_refl _)); clear hWY; have cR := RY.out.v R (by have := HBR.out; omega); have RG3 := Lib.hid (row32_range (HR3.out.grown BY.out)); have RGY := Lib.hid (row32_range RY.out); have CN := Lib.hid (fun w' (hb : Below WY.heap.size WY w') => can_yes g 0 c lS w' ((L3.out.later BY.out).later hb) (Nat.lt_of_lt_of_le (Nat.lt_of_lt_of_le G3.out BY.out.size) hb.size) (by have := SL.out; omega) SO.out)) | (refine wpList_load_midG (by rfl) 24 (.tmp 10) rfl WA.heap.size 0 rfl (cellsR (wasF u)) _ RG3.out Try.underlying24 rfl SZW.out ?_) | (refine wpList_load_midG (by rfl) 24 (.tmp 13) rfl w3.heap.size 0 rfl (cellsR N1) _ RGY.out Try.underlying24 rfl SZN.out ?_) | (go_at_call 6; refine (OTH.out _).mono ?_; rintro e w5 ⟨rfl, b5⟩) | (go_at_call 7; refine (CN.out _ b5).mono ?_; rintro e w6 ⟨rfl, b6⟩))
        refine (AD.out _).mono ?_
        rintro e w7 ⟨v, rfl, own, b7⟩
        have hne : (B : Int) ≠ S := by simpa using hBS
        have ADF := Lib.hid (add_does (f := wasF u) (rd := (R : Int)) (rs := (S : Int)) (n := n) (b := (B : Int)) (was_zero u) WW.out HBR.out HBS.out HBB.out hne)
        have AOK := add_ok (rd := (R : Int)) (rs := (S : Int)) (n := n) (b := (B : Int)) HBR.out HBS.out HBB.out hn
        have ALN := add_len (R : Int) (S : Int) n (B : Int)
        obtain ⟨N2, hN2⟩ : ∃ N, doesD (wasF u) (addS (R : Int) (S : Int) n (B : Int)) = N := ⟨_, rfl⟩
        rw [hN2] at ADF
        obtain ⟨X, L, C, rfl, DC, CC⟩ := add_key (wasF u) N2 _ w6 w7 v own WW.out AOK ALN hN2
        have HDC := Lib.hid DC
        have HCC := Lib.hid CC
        have B67 := Lib.hid (HB3.out.trans ((BY.out.trans ((b5.trans (b6.mono b5.size)).mono BY.out.size)).mono HB3.out.size))
        have HB7 := Lib.hid (B67.out.trans (b7.mono B67.out.size))
        have bY7 := Lib.hid ((b5.trans (b6.mono b5.size)).trans (b7.mono (b5.trans (b6.mono b5.size)).size))
        have HR7 := Lib.hid ((HR3.out.grown BY.out).grown bY7.out)
        have RY7 := Lib.hid (RY.out.grown bY7.out)
        have LT6 := Lib.hid (show w3.heap.size < w6.heap.size by have h1 := RY.out.lt; have h2 := b5.size; have h3 := b6.size; omega)
        have RG7 := Lib.hid (row32_range HR7.out)
        have SZ2 := Lib.hid (show (Try.prog.info? 24).map (·.size) = some (cellsR N2).toArray.size by simp only [List.size_toArray, cellsR_len]; kernel_rfl)
        have E2 := Lib.hid (show 32 = (cellsR N2).toArray.size by simp [cellsR_len])
        have ONE2 := Lib.hid (cellsR_one N2)
        have hi2 := Lib.hid (show (Try.prog.info? 24).map (·.size) = some (cellsR N2).length by rw [cellsR_len]; kernel_rfl)
        clear own DC CC AOK ALN hN2 hne b5 b6 b7 cR n1 n2 l1 l2
        go_wp2_with ((refine wpList_load_mid rfl 24 (.tmp 10) rfl WA.heap.size 0 rfl (cellsR (wasF u)) _ RG7.out Try.underlying24 rfl SZW.out ?_))
        refine (HDC.out _ (Below.refl _ _)).mono ?_
        rintro e w8 ⟨rfl, b8⟩
        have HR8 := Lib.hid (HR7.out.grown b8)
        have HB8 := Lib.hid (HB7.out.trans (b8.mono HB7.out.size))
        have RY8 := RY7.out.grown b8
        obtain ⟨old, hold, hos⟩ := RY8.hp
        have HOLD := Lib.hid hold
        have HOS := Lib.hid (hos.trans E2.out)
        have KP8 := Lib.hid (show Kept w6.heap.size w7 w8 from ⟨b8.size, fun i h1 h2 => b8.block i h2⟩)
        clear RY8 hold hos b8
        go_wp2_with ((refine wpList_store_row rfl 24 (.tmp 13) (.tmp 95) rfl w3.heap.size (cellsR N2).toArray rfl rfl 24 old HOLD.out SZ2.out HOS.out ONE2.out ?_; generalize hWX : World.setRow _ _ (cellsR N2).toArray = WX; have RX := Lib.hid (show Row32 w3.heap.size N2 WX by rw [← hWX]; exact row32_setRow HOLD.out); have RWX := Lib.hid (show Row32 WA.heap.size (wasF u) WX by rw [← hWX]; exact row32_other HR8.out (by have := HR3.out.lt; omega)); have BX := Lib.hid (show Below WA.heap.size WA WX by rw [← hWX]; exact below_setRow HB8.out HB3.out.size); have KPX := Lib.hid (show Kept w6.heap.size w7 WX by rw [← hWX]; exact ⟨by have := KP8.out.1; simp [World.setRow]; exact this, fun i h1 h2 => (setRow_other _ _ _ _ (by have := LT6.out; omega)).trans (KP8.out.2 i h1 h2)⟩); clear hWX))
        have OY := Lib.hid (fun w => others_yes (wasF u) N2 R B w (fun k _ _ h1 h2 => (ADF.out.2 k h1 h2).symm))
        have CX := Lib.hid (fun w' (hb : Below WX.heap.size WX w') => HCC.out w' ⟨Nat.le_trans KPX.out.1 hb.size, fun i h1 h2 => (hb.block i (Nat.lt_of_lt_of_le h2 KPX.out.1)).trans (KPX.out.2 i h1 h2)⟩)
        have hS : WX.cell? ⟨w3.heap.size, R, none⟩ = some (.int .u32 (N2 (R : Int))) ∧ WX.cell? ⟨WA.heap.size, S, none⟩ = some (.int .u32 (wasF u (S : Int))) ∧ WX.rangeAt WA.heap.size 0 (cellsR (wasF u)) ∧ WX.rangeAt w3.heap.size 0 (cellsR N2) ∧ WA.heap.size < WX.heap.size ∧ w3.heap.size < WX.heap.size ∧ Below WX.heap.size WX WX := ⟨RX.out.v R (by have := HBR.out; omega), RWX.out.v S (by have := HBS.out; omega), row32_range RWX.out, row32_range RX.out, RWX.out.lt, RX.out.lt, Below.refl _ _⟩
        have m1 : (N2 (R : Int) == (wasF u (S : Int) + n) % 4294967296) = true := by rw [ADF.out.1]; simp
        have m2 : (N2 (R : Int) == (wasF u (S : Int) + n % 4294967296) % 4294967296) = true := by rw [ADF.out.1, show (wasF u (S : Int) + n % 4294967296) % 4294967296 = (wasF u (S : Int) + n) % 4294967296 by omega]; simp
        have m3 : (N2 (R : Int) == IntKind.u32.wrap (wasF u (S : Int) + IntKind.u32.wrap n)) = true := by rw [IntKind.wrap_u32, IntKind.wrap_u32]; exact m2
        have m4 : (N2 (R : Int) == IntKind.u32.wrap (wasF u (S : Int) + n)) = true := by rw [IntKind.wrap_u32]; exact m1
        have m5 : (N2 (R : Int) == (wasF u (S : Int) + IntKind.u32.wrap n) % 4294967296) = true := by rw [IntKind.wrap_u32]; exact m2
        have m6 : (N2 (R : Int) == IntKind.u32.wrap (wasF u (S : Int) + n % 4294967296)) = true := by rw [IntKind.wrap_u32]; exact m2
        have qS0 : (0 : Int) ≤ (S : Int) := by omega
        have qS1 : (S : Int) < 32 := by have := HBS.out; omega
        have hu24 := Try.underlying24
        refine wp_region_held_drew (S := (fun w' => w'.cell? ⟨w3.heap.size, R, none⟩ = some (.int .u32 (N2 (R : Int))) ∧ w'.cell? ⟨WA.heap.size, S, none⟩ = some (.int .u32 (wasF u (S : Int))) ∧ w'.rangeAt WA.heap.size 0 (cellsR (wasF u)) ∧ w'.rangeAt w3.heap.size 0 (cellsR N2) ∧ WA.heap.size < w'.heap.size ∧ w3.heap.size < w'.heap.size ∧ Below WX.heap.size WX w')) (by kernel_rfl) (by obtain ⟨v0, v1, v2, v3, v4, v5, v6⟩ := hS; exact ⟨v0, v1, v2, v3, v4, v5, v6.drew⟩) (fun hHeld => ?_)
        refine wpAnyH_take (i := 0) (oi := _) (v := ?v0) rfl (by kernel_rfl) (by kernel_rfl) (by kernel_rfl) (fun _ _ _ h => h) (Or.inl ⟨by rfl, ?y0⟩) hHeld ?r0
        case y0 => (intro wq hSw; (try dsimp only at hSw); go_simp; try with_reducible rfl)
        try simp only [Act.put, List.getElem_toArray, List.getElem_cons_zero, List.setIfInBounds_toArray, List.set_cons_zero, List.set_cons_succ]
        refine wpAnyH_take (i := 1) (oi := _) (v := ?v1) rfl (by kernel_rfl) (by kernel_rfl) (by kernel_rfl) (fun _ _ _ h => h) (Or.inl ⟨by rfl, ?y1⟩) hHeld ?r1
        case y1 => (intro wq hSw; (try dsimp only at hSw); go_simp; try with_reducible rfl)
        try simp only [Act.put, List.getElem_toArray, List.getElem_cons_zero, List.getElem_cons_succ, List.setIfInBounds_toArray, List.set_cons_zero, List.set_cons_succ]
        refine wpAnyH_take (i := 2) (oi := _) (v := ?v2) rfl (by kernel_rfl) (by kernel_rfl) (by kernel_rfl) (fun _ _ _ h => h) (Or.inl ⟨by rfl, ?y2⟩) hHeld ?r2
        case y2 => (intro wq hSw; (try dsimp only at hSw); go_simp; try with_reducible rfl)
        try simp only [Act.put, List.getElem_toArray, List.getElem_cons_zero, List.getElem_cons_succ, List.setIfInBounds_toArray, List.set_cons_zero, List.set_cons_succ]
        refine wpAnyH_take (i := 3) (oi := _) (v := ?v3) rfl (by kernel_rfl) (by kernel_rfl) (by kernel_rfl) (fun _ _ _ h => h) (Or.inl ⟨by rfl, ?y3⟩) hHeld ?r3
        case y3 => (intro wq hSw; (try dsimp only at hSw); go_simp; try with_reducible rfl)
        try simp only [Act.put, List.getElem_toArray, List.getElem_cons_zero, List.getElem_cons_succ, List.setIfInBounds_toArray, List.set_cons_zero, List.set_cons_succ]
        refine wpAnyH_take (i := 4) (oi := _) (v := ?v4) rfl (by kernel_rfl) (by kernel_rfl) (by kernel_rfl) (fun _ _ _ h => h) (Or.inl ⟨by rfl, ?y4⟩) hHeld ?r4
        case y4 => (intro wq hSw; (try dsimp only at hSw); go_simp; try with_reducible rfl)
        try simp only [Act.put, List.getElem_toArray, List.getElem_cons_zero, List.getElem_cons_succ, List.setIfInBounds_toArray, List.set_cons_zero, List.set_cons_succ]
        refine wpAnyH_take (i := 5) (oi := _) (v := ?v5) rfl (by kernel_rfl) (by kernel_rfl) (by kernel_rfl) (fun _ _ _ h => h) (Or.inl ⟨by rfl, ?y5⟩) hHeld ?r5
        case y5 => (intro wq hSw; (try dsimp only at hSw); go_simp; try with_reducible rfl)
        try simp only [Act.put, List.getElem_toArray, List.getElem_cons_zero, List.getElem_cons_succ, List.setIfInBounds_toArray, List.set_cons_zero, List.set_cons_succ]
        refine wpAnyH_take (i := 6) (oi := _) (v := ?v6) rfl (by kernel_rfl) (by kernel_rfl) (by kernel_rfl) (fun _ _ _ h => h) (Or.inl ⟨by rfl, ?y6⟩) hHeld ?r6
        case y6 => (intro wq hSw; (try dsimp only at hSw); go_simp; try with_reducible rfl)
        try simp only [Act.put, List.getElem_toArray, List.getElem_cons_zero, List.getElem_cons_succ, List.setIfInBounds_toArray, List.set_cons_zero, List.set_cons_succ]
        refine wpAnyH_take (i := 7) (oi := _) (v := ?v7) rfl (by kernel_rfl) (by kernel_rfl) (by kernel_rfl) (fun _ _ _ h => h) (Or.inl ⟨by rfl, ?y7⟩) hHeld ?r7
        case y7 => (intro wq hSw; (try dsimp only at hSw); go_simp; try with_reducible rfl)
        try simp only [Act.put, List.getElem_toArray, List.getElem_cons_zero, List.getElem_cons_succ, List.setIfInBounds_toArray, List.set_cons_zero, List.set_cons_succ]
        refine wpAnyH_take (i := 8) (oi := _) (v := ?v8) rfl (by kernel_rfl) (by kernel_rfl) (by kernel_rfl) (fun _ _ _ h => h) (Or.inl ⟨by rfl, ?y8⟩) hHeld ?r8
        case y8 => (intro wq hSw; (try dsimp only at hSw); go_simp; try with_reducible rfl)
        try simp only [Act.put, List.getElem_toArray, List.getElem_cons_zero, List.getElem_cons_succ, List.setIfInBounds_toArray, List.set_cons_zero, List.set_cons_succ]
        refine wpAnyH_take (i := 9) (oi := _) (v := ?v9) rfl (by kernel_rfl) (by kernel_rfl) (by kernel_rfl) (fun _ _ _ h => h) (Or.inl ⟨by rfl, ?y9⟩) hHeld ?r9
        case y9 => (intro wq hSw; (try dsimp only at hSw); go_simp; try with_reducible rfl)
        try simp only [Act.put, List.getElem_toArray, List.getElem_cons_zero, List.getElem_cons_succ, List.setIfInBounds_toArray, List.set_cons_zero, List.set_cons_succ]
        refine wpAnyH_take (i := 10) (oi := _) (v := ?v10) rfl (by kernel_rfl) (by kernel_rfl) (by kernel_rfl) (fun _ _ _ h => h) (Or.inl ⟨by rfl, ?y10⟩) hHeld ?r10
        case y10 => (intro wq hSw; (try dsimp only at hSw); go_simp; try with_reducible rfl)
        try simp only [Act.put, List.getElem_toArray, List.getElem_cons_zero, List.getElem_cons_succ, List.setIfInBounds_toArray, List.set_cons_zero, List.set_cons_succ]
        refine wpAnyH_take (i := 11) (oi := _) (v := .agg (cellsR (wasF u)).toArray) rfl (by kernel_rfl) (by kernel_rfl) (by kernel_rfl) (fun _ _ _ h => h) (yieldsIf_load_mid (by rfl) _ _ rfl _ _ rfl _ _ (fun wq h => h.2.2.1) hu24 rfl SZW.out) hHeld ?_
        try simp only [Act.put, List.getElem_toArray, List.getElem_cons_zero, List.getElem_cons_succ, List.setIfInBounds_toArray, List.set_cons_zero, List.set_cons_succ]
        refine wpAnyH_take (i := 12) (oi := _) (v := .agg (cellsR N2).toArray) rfl (by kernel_rfl) (by kernel_rfl) (by kernel_rfl) (fun _ _ _ h => h) (yieldsIf_load_mid (by rfl) _ _ rfl _ _ rfl _ _ (fun wq h => h.2.2.2.1) hu24 rfl hi2.out) hHeld ?_
        try simp only [Act.put, List.getElem_toArray, List.getElem_cons_zero, List.getElem_cons_succ, List.setIfInBounds_toArray, List.set_cons_zero, List.set_cons_succ]
        refine wpAnyH_take (i := 13) (oi := _) (v := ?v13) rfl (by kernel_rfl) (by kernel_rfl) (by kernel_rfl) (fun _ _ _ h => h) (Or.inl ⟨by rfl, ?y13⟩) hHeld ?r13
        case y13 => (intro wq hSw; (try dsimp only at hSw); go_simp; try with_reducible rfl)
        try simp only [Act.put, List.getElem_toArray, List.getElem_cons_zero, List.getElem_cons_succ, List.setIfInBounds_toArray, List.set_cons_zero, List.set_cons_succ]
        refine wpAnyH_take (i := 14) (oi := _) (v := ?v14) rfl (by kernel_rfl) (by kernel_rfl) (by kernel_rfl) (fun _ _ _ h => h) (Or.inl ⟨by rfl, ?y14⟩) hHeld ?r14
        case y14 => (intro wq hSw; (try dsimp only at hSw); go_simp; try with_reducible rfl)
        try simp only [Act.put, List.getElem_toArray, List.getElem_cons_zero, List.getElem_cons_succ, List.setIfInBounds_toArray, List.set_cons_zero, List.set_cons_succ]
        refine wpAnyH_ready (rs := [15]) (by kernel_rfl) (by simp) ?_
        refine AllReadyH.cons (o := _) rfl (fun K hK => ?_) AllReadyH.nil
        go_simp
        refine (OY.out _).mono ?_; rintro e w9 ⟨rfl, hbl⟩
        refine hK.out _ _ (by obtain ⟨v0, v1, v2, v3, v4, v5, v6⟩ := hHeld; exact ⟨(hbl.cell (by show w3.heap.size < _; omega)).trans v0, (hbl.cell (by show WA.heap.size < _; omega)).trans v1, range_later v2 hbl v4, range_later v3 hbl v5, Nat.lt_of_lt_of_le v4 hbl.size, Nat.lt_of_lt_of_le v5 hbl.size, v6.trans (hbl.mono v6.size)⟩) (fun hHeld2 => ?_)
        clear hK K hHeld
        have hHeld := hHeld2
        clear hHeld2
        try simp only [Act.put, List.getElem_toArray, List.getElem_cons_zero, List.getElem_cons_succ, List.setIfInBounds_toArray, List.set_cons_zero, List.set_cons_succ]
        refine wpAnyH_take (i := 16) (oi := _) (v := ?v16) rfl (by kernel_rfl) (by kernel_rfl) (by kernel_rfl) (fun _ _ _ h => h) (Or.inl ⟨by rfl, ?y16⟩) hHeld ?r16
        case y16 => (intro wq hSw; (try dsimp only at hSw); go_simp; try with_reducible rfl)
        try simp only [Act.put, List.getElem_toArray, List.getElem_cons_zero, List.getElem_cons_succ, List.setIfInBounds_toArray, List.set_cons_zero, List.set_cons_succ]
        refine wpAnyH_take (i := 17) (oi := _) (v := ?v17) rfl (by kernel_rfl) (by kernel_rfl) (by kernel_rfl) (fun _ _ _ h => h) (Or.inl ⟨by rfl, ?y17⟩) hHeld ?r17
        case y17 => (intro wq hSw; (try dsimp only at hSw); go_simp; try with_reducible rfl)
        try simp only [Act.put, List.getElem_toArray, List.getElem_cons_zero, List.getElem_cons_succ, List.setIfInBounds_toArray, List.set_cons_zero, List.set_cons_succ]
        refine wpAnyH_take (i := 18) (oi := _) (v := ?v18) rfl (by kernel_rfl) (by kernel_rfl) (by kernel_rfl) (fun _ _ _ h => h) (Or.inl ⟨by rfl, ?y18⟩) hHeld ?r18
        case y18 => (intro wq hSw; (try dsimp only at hSw); go_simp; try with_reducible rfl)
        try simp only [Act.put, List.getElem_toArray, List.getElem_cons_zero, List.getElem_cons_succ, List.setIfInBounds_toArray, List.set_cons_zero, List.set_cons_succ]
        refine wpAnyH_ready (rs := [19]) (by kernel_rfl) (by simp) ?_
        refine AllReadyH.cons (o := _) rfl (fun K hK => ?_) AllReadyH.nil
        go_simp
        refine (CX.out _ hHeld.2.2.2.2.2.2).mono ?_; rintro e w9 ⟨rfl, hbl⟩
        refine hK.out _ _ (by obtain ⟨v0, v1, v2, v3, v4, v5, v6⟩ := hHeld; exact ⟨(hbl.cell (by show w3.heap.size < _; omega)).trans v0, (hbl.cell (by show WA.heap.size < _; omega)).trans v1, range_later v2 hbl v4, range_later v3 hbl v5, Nat.lt_of_lt_of_le v4 hbl.size, Nat.lt_of_lt_of_le v5 hbl.size, v6.trans (hbl.mono v6.size)⟩) (fun hHeld2 => ?_)
        clear hK K hHeld
        have hHeld := hHeld2
        clear hHeld2
        try simp only [Act.put, List.getElem_toArray, List.getElem_cons_zero, List.getElem_cons_succ, List.setIfInBounds_toArray, List.set_cons_zero, List.set_cons_succ]
        refine wpAnyH_take (i := 20) (oi := _) (v := ?v20) rfl (by kernel_rfl) (by kernel_rfl) (by kernel_rfl) (fun _ _ _ h => h) (Or.inl ⟨by rfl, ?y20⟩) hHeld ?r20
        case y20 => (intro wq hSw; (try dsimp only at hSw); go_simp; try with_reducible rfl)
        try simp only [Act.put, List.getElem_toArray, List.getElem_cons_zero, List.getElem_cons_succ, List.setIfInBounds_toArray, List.set_cons_zero, List.set_cons_succ]
        refine wpAnyH_take (i := 21) (oi := _) (v := ?v21) rfl (by kernel_rfl) (by kernel_rfl) (by kernel_rfl) (fun _ _ _ h => h) (Or.inl ⟨by rfl, ?y21⟩) hHeld ?r21
        case y21 => (intro wq hSw; (try dsimp only at hSw); go_simp; try with_reducible rfl)
        try simp only [Act.put, List.getElem_toArray, List.getElem_cons_zero, List.getElem_cons_succ, List.setIfInBounds_toArray, List.set_cons_zero, List.set_cons_succ]
        refine wpAnyH_ready (rs := [22]) (by kernel_rfl) (by simp) ?_
        refine AllReadyH.cons (o := _) rfl (fun K hK => ?_) AllReadyH.nil
        go_simp
        refine (law12_lives _).mono ?_; rintro e w9 ⟨rfl, hbl⟩
        refine hK.out _ _ (by obtain ⟨v0, v1, v2, v3, v4, v5, v6⟩ := hHeld; exact ⟨(hbl.cell (by show w3.heap.size < _; omega)).trans v0, (hbl.cell (by show WA.heap.size < _; omega)).trans v1, range_later v2 hbl v4, range_later v3 hbl v5, Nat.lt_of_lt_of_le v4 hbl.size, Nat.lt_of_lt_of_le v5 hbl.size, v6.trans (hbl.mono v6.size)⟩) (fun hHeld2 => ?_)
        clear hK K hHeld
        have hHeld := hHeld2
        clear hHeld2
        try simp only [Act.put, List.getElem_toArray, List.getElem_cons_zero, List.getElem_cons_succ, List.setIfInBounds_toArray, List.set_cons_zero, List.set_cons_succ]
        refine wpAnyH_take (i := 23) (oi := _) (v := ?v23) rfl (by kernel_rfl) (by kernel_rfl) (by kernel_rfl) (fun _ _ _ h => h) (Or.inl ⟨by rfl, ?y23⟩) hHeld ?r23
        case y23 => (intro wq hSw; (try dsimp only at hSw); go_simp; try with_reducible rfl)
        try simp only [Act.put, List.getElem_toArray, List.getElem_cons_zero, List.getElem_cons_succ, List.setIfInBounds_toArray, List.set_cons_zero, List.set_cons_succ]
        refine wpAnyH_take (i := 24) (oi := _) (v := ?v24) rfl (by kernel_rfl) (by kernel_rfl) (by kernel_rfl) (fun _ _ _ h => h) (Or.inl ⟨by rfl, ?y24⟩) hHeld ?r24
        case y24 => (intro wq hSw; (try dsimp only at hSw); go_simp; try with_reducible rfl)
        try simp only [Act.put, List.getElem_toArray, List.getElem_cons_zero, List.getElem_cons_succ, List.setIfInBounds_toArray, List.set_cons_zero, List.set_cons_succ]
        refine wpAnyH_done (by kernel_rfl) ?_ _
        obtain ⟨v0, v1, v2, v3, v4, v5, v6⟩ := hHeld
        have FIN := Lib.hid (Below.trans B0.out ((BX.out.trans (v6.mono BX.out.size)).mono B0.out.size))
        go_wp2_with fail
        go_ret
        exact ⟨rfl, FIN.out⟩
      · go_wp2_with (first | (refine wpList_store_row rfl 24 (.tmp 13) (.tmp 45) rfl w3.heap.size (cellsR N1).toArray rfl rfl 24 _ (heap_alloc_new _ _) SZG.out E32.out ONEG.out ?_; generalize hWY : World.setRow _ _ (cellsR N1).toArray = WY; have RY := Lib.hid (show Row32 w3.heap.size N1 WY by rw [← hWY]; exact row32_setRow (heap_alloc_new _ _)); have BY := Lib.hid (show Below w3.heap.size w3 WY by rw [← hWY]; exact below_setRow ((Below.refl _ _).alloc (Nat.le_refl _) _) (Nat.le_refl _)); clear hWY; have cR := RY.out.v R (by have := HBR.out; omega); have RG3 := Lib.hid (row32_range (HR3.out.grown BY.out)); have RGY := Lib.hid (row32_range RY.out); have CN := Lib.hid (fun w' (hb : Below WY.heap.size WY w') => can_yes g 0 c lS w' ((L3.out.later BY.out).later hb) (Nat.lt_of_lt_of_le (Nat.lt_of_lt_of_le G3.out BY.out.size) hb.size) (by have := SL.out; omega) SO.out)) | (refine wpList_load_midG (by rfl) 24 (.tmp 10) rfl WA.heap.size 0 rfl (cellsR (wasF u)) _ RG3.out Try.underlying24 rfl SZW.out ?_) | (refine wpList_load_midG (by rfl) 24 (.tmp 13) rfl w3.heap.size 0 rfl (cellsR N1) _ RGY.out Try.underlying24 rfl SZN.out ?_) | (go_at_call 6; refine (OTH.out _).mono ?_; rintro e w5 ⟨rfl, b5⟩) | (go_at_call 7; refine (CN.out _ b5).mono ?_; rintro e w6 ⟨rfl, b6⟩))
        refine (AD.out _).mono ?_
        rintro e w7 ⟨v, rfl, own, b7⟩
        rw [add_no (by have : (B : Int) = S := by simpa using hBS
                       omega)] at own
        obtain ⟨a7, c7, rfl⟩ := own_none own
        have B7 := Lib.hid (HB3.out.trans ((BY.out.trans ((b5.trans (b6.mono b5.size)).mono BY.out.size)).mono HB3.out.size))
        have FB := Lib.hid (Below.trans B0.out ((B7.out.trans (b7.mono B7.out.size)).mono B0.out.size))
        clear own b7
        go_wp2_with fail
        refine (law12_lives _).mono ?_
        rintro e w8 ⟨rfl, b8⟩
        have FC := Lib.hid (bt FB.out b8)
        clear b8
        go_wp2_with fail
        go_ret
        exact ⟨rfl, FC.out⟩

theorem own : ownKnob Try.prog.godebug = none := by kernel_rfl
theorem laidOut : laidOutB Try.prog = true := by kernel_rfl
set_option maxRecDepth 100000 in
theorem lifted_PseudoDoes (os : Os) (started : os.Started) (H : Type) (enc : TypeId × Value → H) :
    ReturnsInHanded {} Try.checked os 3 .any (Rows.pseudoDoesSpec.pre6 enc Try.prog Try.f3 Rows.pseudoDoesRow.domain false) (Rows.pseudoDoesSpec.post enc Try.prog Try.f3 false true false false) := by
  refine returnsInHanded_of_change (C := Try.checked) own started (by kernel_rfl) Try.func3
    (ChangeSpec.witness6 (enc := enc) (C := Try.checked) false ⟨#[], #[.int .i32 0, .int .u32 0, .agg #[.int .u8 0, .int .u8 0, .int .u8 0]], []⟩ 8 (by kernel_rfl) (by kernel_rfl) (by kernel_rfl) (by kernel_rfl)) ?_
  intro W base args ds gs before hval0 hW hcnd _
  have hval : ∀ (j : Nat) t v, Try.f3.params[j]? = some t → args[j]? = some v → Value.okWide Try.prog W .any base t v := hval0
  have hW' := hW
  obtain ⟨p, q, hA0, hV, rfl, hfz, hnd⟩ := hW
  have hA : DataW.TrodAll enc Try.prog W 0 (fun _ => true) true Try.f3.params.toList args.toList ds p := hA0
  rw [Try.params3] at hA hval
  obtain ⟨v0, vs0, d0, ds0, p0, q0, hargs, rfl, rfl, h0, r0⟩ := trodAll_cons hA
  obtain ⟨v1, vs1, d1, ds1, p1, q1, rfl, rfl, rfl, h1, r1⟩ := trodAll_cons r0
  obtain ⟨v2, vs2, d2, ds2, p2, q2, rfl, rfl, rfl, h2, r2⟩ := trodAll_cons r1
  obtain ⟨rfl, rfl, rfl⟩ := trodAll_nil r2
  obtain rfl : args = #[v0, v1, v2] := by cases args; simp_all
  obtain ⟨rfl, rfl⟩ := trodVars_none hV
  obtain ⟨a0, rfl, rfl, rfl, w0⟩ := open_int Try.underlying21 (hval 0 21 v0 rfl rfl) h0
  obtain ⟨a1, rfl, rfl, rfl, w1⟩ := open_int Try.underlying22 (hval 1 22 v1 rfl rfl) h1
  have k2 := h2
  have lt2 : ∀ x ∈ p2, x.block < W.heap.size := by obtain ⟨m, hm⟩ := k2; exact DataW.trod_lt m _ _ _ hm
  obtain ⟨zs2, zl2, rfl, zw2⟩ := flat_ints [.u8, .u8, .u8] (ts := [5, 5, 5]) (Or.inr ⟨_, _, Try.underlying23⟩) (by kernel_rfl) (by kernel_rfl) (by kernel_rfl) (hval 2 23 v2 rfl rfl)
  obtain ⟨a2_0, a2_1, a2_2, rfl⟩ := len3 zl2
  clear hA0 hval0
  refine (walk_PseudoDoes a0 a1 a2_0 a2_1 a2_2 w0 w1 (zw2 0 .u8 _ rfl rfl) (zw2 1 .u8 _ rfl rfl) (zw2 2 .u8 _ rfl rfl) W).mono fun e W' ⟨he, bel⟩ => ?_
  subst he
  exact ⟨_, rfl, _, _, _, [], _, [], hW', trodAll_mk1 (shut_bool Try.underlying4 _), (trodAll_cons_mk (shut_int Try.underlying21 w0) (trodAll_cons_mk (shut_int Try.underlying22 w1) (trodAll_cons_mk (Below.trod laidOut (by kernel_rfl) (of_decide_eq_true (by kernel_rfl)) k2 bel lt2) trodAll_mk0))), rfl, bel.frame _, fun h => by cases h⟩

theorem holds_PseudoDoes : Rows.PseudoDoesSaid :=
  OpenClaim.holds_of_wide 3 Try.f3 rfl rfl rfl rfl rfl rfl rfl ⟨rfl, rfl, rfl, rfl, rfl⟩ rfl rfl rfl rfl rfl (by kernel_rfl) Try.func3 (by kernel_rfl)
    (of_decide_eq_true (by kernel_rfl)) (by unfold Func.isWrapper; first | (rw [if_pos (by decide +kernel)]; kernel_rfl) | (rw [if_neg (by decide +kernel)]; exact ⟨rfl, rfl⟩))
    (fun os started H enc _ => lifted_PseudoDoes os started H enc)

end Go.Proofs.Ytmhkihfbcpmjlaa
