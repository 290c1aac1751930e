/- Layer 5's statement on acts: Put of any bytes. -/
import Derived.Test.YtnkfdpkcnfefeaaMemW
import Derived.Deep.AppendLies
import Derived.Deep.RegionHeld3
namespace Go.Proofs.Ytnkfdpkcnfefeaa
open Go Go.RowKit
set_option linter.unusedVariables false

theorem run_append_zero {P : Program} {t ty e : TypeId} (ht : P.underlying t = some (.slice e)) {i : TypeInfo} {z : Value} (hi : P.info? e = some i) (hz : i.zero = some z) (g : Nat) (ad : Option Addr) (c : Nat) (w : World) :
    (Builtin.append_ #[t, t] ty #[.slice (some ⟨g, 0, none⟩) 0 0, .slice ad 0 c]).run P w = .ok (.slice (some ⟨g, 0, none⟩) 0 0) w := by
  cases ad <;> simp [Builtin.append_, run_underlying ht, sizeOf, typeInfo, hi, Builtin.lenOf, Builtin.firstCells, loadCells, loadCellsFrom, storeCells]
theorem step_append_zero {P : Program} {w : World} {ops : Array Oper} {o : Oper} {a : Act} {K : Act → World → Prop} {Q : Exit → Act → World → Prop} {E : Prop} (hgd : o.guard = none) (s x : Operand) (t : TypeId)
    (ho : o.op = .call { callee := .builtin .append, args := #[s, x], argTypes := #[t, t] })
    (e : TypeId) (i : TypeInfo) (z : Value) (ht : P.underlying t = some (.slice e)) (hi : P.info? e = some i) (hz : i.zero = some z)
    (g : Nat) (hs : a.eval s = .slice (some ⟨g, 0, none⟩) 0 0) (ad : Option Addr) (c : Nat) (hx : a.eval x = .slice ad 0 c)
    (h : K (a.put o.dst (.slice (some ⟨g, 0, none⟩) 0 0)) w) :
    if Region.wanted o (yielded ops a.tmps) = true then Oper.wp P o a w K Q else E := by
  have hw : Region.wanted o (yielded ops a.tmps) = true := by simp [Region.wanted, hgd]
  rw [if_pos hw]
  have hr := run_append_zero (P := P) (ty := o.type) ht hi hz g ad c w
  unfold Oper.wp execOp
  simp only [ho, resolve, invoke, builtin, Sem.run_bind, Sem.run_pure, Result.andThen_ok, List.map_toArray, List.map_cons, List.map_nil, hs, hx, hr]
  exact h
/-- where acts may change what was there -/
def DS (F R X B : Nat) (j : Nat) : Prop := j = F ∨ j = R ∨ j = X ∨ B ≤ j
/-- both memories behind an act -/
def DoesPost (M F R X B f r n1 n2 cnt : Nat) (W : World) (e : Ending) (w' : World) : Prop := e = .returned (.bool true) ∧ ∃ Fb Rb L v, Two M F R X B f r Fb Rb L v w' ∧ Agree f r Fb Rb L ∧ Fb.length = n1 ∧ Rb.length = n2 ∧ L.length ≤ cnt ∧ Out (DS F R X B) W w'
theorem setB_nil (l : List Nat) (o : Nat) : setB l o [] = l := by simp [setB]
theorem putF_length (f n1 : Nat) (Fb : List Nat) (hl : Fb.length = n1) (a : Nat) (bs : List Nat) : (putF f n1 Fb a bs).length = n1 := by
  unfold putF
  split
  · rename_i h
    have := inB_out h
    rw [setB_length _ _ _ (by omega), hl]
  · exact hl
theorem putR_length (f n1 r n2 : Nat) (Rb : List Nat) (hl : Rb.length = n2) (a : Nat) (bs : List Nat) : (putR f n1 r n2 Rb a bs).length = n2 := by
  unfold putR
  split
  · exact hl
  · split
    · rename_i h
      have := inB_out h
      rw [setB_length _ _ _ (by omega), hl]
    · exact hl
def logP (f n1 r n2 : Nat) (L : List (Nat × Nat)) (a : Nat) (bs : List Nat) : List (Nat × Nat) := if wIn f n1 r n2 a bs.length then L ++ writes a bs else L
theorem agree_put {f r : Nat} {Fb Rb : List Nat} {L : List (Nat × Nat)} (h : Agree f r Fb Rb L) (hd : f + Fb.length ≤ r ∨ r + Rb.length ≤ f) (a : Nat) (bs : List Nat) :
    Agree f r (putF f Fb.length Fb a bs) (putR f Fb.length r Rb.length Rb a bs) (logP f Fb.length r Rb.length L a bs) := by
  unfold putF putR logP wIn
  by_cases h1 : inB f Fb.length a bs.length = true
  · have := inB_out h1
    simp only [h1, if_true, Bool.true_or]
    have k := agree_flash h hd (a - f) bs (by omega)
    rwa [show f + (a - f) = a by omega] at k
  · by_cases h2 : inB r Rb.length a bs.length = true
    · have := inB_out h2
      simp only [h1, h2, if_true, Bool.or_true, Bool.false_eq_true, if_false]
      have k := agree_ram h hd (a - r) bs (by omega)
      rwa [show r + (a - r) = a by omega] at k
    · simp only [h1, h2, Bool.or_self, Bool.false_eq_true, if_false]
      exact h
theorem rput_any {X B f n1 r n2 : Nat} {L : List (Nat × Nat)} {v : Value} {W : World} (h : RefIs X B f n1 r n2 L v W) (hb : Banks f n1 r n2) (a : Nat) (ha : a < 4294967296) (bs : List Nat) (b off cc : Nat) (h0 : 0 < bs.length) (hn : bs.length ≤ 1000) (h256 : ∀ x ∈ bs, x < 256) (hs : L.length + bs.length ≤ 1000000)
    (src : ∀ j x, bs[j]? = some x → W.cell? ⟨b, off + j, none⟩ = some (.int .u8 (x : Nat))) (hbX : ¬ RS X v b) :
    Calls Try.prog 27 #[.pointer (some ⟨X, 0, none⟩), .int .u32 (a : Nat), .slice (some ⟨b, off, none⟩) bs.length cc] W (PutR X B f n1 r n2 (logP f n1 r n2 L a bs) v W (wIn f n1 r n2 a bs.length)) := by
  have hw := has_any h hb a bs.length ha (by omega)
  unfold logP
  cases hi : wIn f n1 r n2 a bs.length
  · rw [hi] at hw
    exact rput_out h a bs.length _ cc h0 (by omega) hw
  · rw [hi] at hw
    have hbd := wIn_bd hb hi
    exact rput_in h a bs b off cc h0 hbd h256 hs hw src hbX
theorem info_u8X : (Try.prog.info? 5).map (fun i => (i.zero, i.size, i.bytes)) = some (some (.int .u8 0), 1, 1) := by kernel_rfl
structure Apart (M F R X B : Nat) : Prop where
  m : M < B
  f : F < B
  r : R < B
  xf : X ≠ F
  xr : X ≠ R
  xm : X ≠ M
structure ApartB (F R X B b : Nat) : Prop where
  bf : b ≠ F
  br : b ≠ R
  bx : b ≠ X
  bB : b < B
theorem two_after {M F R X B f r : Nat} {Fb Rb : List Nat} {L : List (Nat × Nat)} {v v8 : Value} {w9 w8 : World} (hap : Apart M F R X B) (h : MemIs M F R f r Fb Rb w9) (hr : RefIs X B f Fb.length r Rb.length L v8 w8) (ho : Out (RS X v) w9 w8) (hv : ∀ j, v.ownBlock = some j → B ≤ j) : Two M F R X B f r Fb Rb L v8 w8 := by
  have q1 := hap.m; have q2 := hap.f; have q3 := hap.r; have q4 := hap.xf; have q5 := hap.xr; have q6 := hap.xm
  refine ⟨h.out ho ?_ ?_ ?_, hr⟩
  · rintro (e | e)
    · omega
    · have := hv _ e; omega
  · rintro (e | e)
    · omega
    · have := hv _ e; omega
  · rintro (e | e)
    · omega
    · have := hv _ e; omega
theorem ds_rs {F R X B : Nat} {v : Value} (hv : ∀ j, v.ownBlock = some j → B ≤ j) : ∀ j, RS X v j → DS F R X B j := by
  rintro j (e | e)
  · exact .inr (.inr (.inl e))
  · exact .inr (.inr (.inr (hv j e)))
set_option maxRecDepth 100000 in
set_option maxHeartbeats 2000000 in
theorem does_put0 {M F R X B f r : Nat} {Fb Rb : List Nat} {L : List (Nat × Nat)} {v : Value} {W : World} (h : Two M F R X B f r Fb Rb L v W) (hb : Banks f Fb.length r Rb.length) (hag : Agree f r Fb Rb L) (s : Int) (a : Nat) (x : Int) (ha : a < 4294967296) (hL : L.length + 40 ≤ 1000000) (hap : Apart M F R X B)
    (ad : Option Addr) (cc : Nat) :
    Calls Try.prog 13 #[.pointer (some ⟨M, 0, none⟩), .pointer (some ⟨X, 0, none⟩), .agg #[.int .i64 3, .int .i64 s, .int .u32 (a : Nat), .int .u32 x, .slice ad 0 cc]] W (DoesPost M F R X B f r Fb.length Rb.length (L.length + 40) W) := by
  obtain ⟨i0, hi, hz0, hz1, hz2⟩ := info_parts info_u8X
  have T1 := Lib.hid h
  have AG := Lib.hid hag
  have HV := Lib.hid (show ∀ j, v.ownBlock = some j → B ≤ j ∧ j < W.heap.size from fun j hj => h.x.own.lt j hj)
  have hXW : X < W.heap.size := h.x.lt
  clear h hag
  go_enter Try.func13, Try.ntmps13
  go_wp2_with fail
  have B1 := Lib.hid (BoxA.new W 3 s (a : Nat) x (.slice ad 0 cc) 45)
  have L1 := Lib.hid (show Below W.heap.size W (W.alloc (.cells #[.int .i64 3, .int .i64 s, .int .u32 (a : Nat), .int .u32 x, .slice ad 0 cc] 45)) by go_grown)
  generalize W.alloc _ = W1 at *
  have hbx : W.heap.size < W1.heap.size := World.block_lt_of_cell? W1 _ B1.out.c2
  have c2 := B1.out.c2
  have T2 := Lib.hid (show ∀ w', Below W1.heap.size W1 w' → Two M F R X B f r Fb Rb L v w' from fun w' hw => T1.out.below (L1.out.trans (hw.mono L1.out.size)))
  have NB := Lib.hid (show ¬ RS X v W.heap.size from fun g => by
    rcases g with g | g
    · omega
    · have := (HV.out _ g).2; omega)
  generalize hBX : W.heap.size = bx at *
  clear B1 T1
  go_region_held3 (fun w' => w'.cell? ⟨bx, 2, none⟩ = some (.int .u32 (a : Nat)))
    (first | go_keep | exact hcl.trans (by assumption) | exact (hcl.trans (by assumption)))
    (first
    | (refine step_append_zero (by rfl) _ _ _ (by rfl) 5 i0 (.int .u8 0) Try.underlying43 hi hz0 W1.heap.size (by rfl) ad cc (by rfl) ?_)
    | (go_at_call 26; refine (mput_nil M (a : Nat) _ _ _).mono ?_; rintro e w9 ⟨rfl, hl9⟩; have hcl := hl9.cell ⟨bx, 2, none⟩)
    | (go_at_call 27; refine (rput_nil ((T2.out _ (by go_grown)).like hl9).x (a : Nat) _ _).mono ?_; rintro e w8 ⟨rfl, v8, hr8, ho8, hf8⟩; have hcl : w8.cell? ⟨bx, 2, none⟩ = w9.cell? ⟨bx, 2, none⟩ := ho8.cell (p := ⟨bx, 2, none⟩) (by show bx < w9.heap.size; rw [hl9.1]; simp; omega) NB.out))
  have D := Lib.hid (show Two M F R X B f r Fb Rb L v8 w8 ∧ Out (DS F R X B) W w8 by
    have hb2 : Below W1.heap.size W1 (W1.alloc (.cells #[] 5)).drew := (((Below.refl _ _).alloc (Nat.le_refl _) _)).drew
    have o1 : Out (DS F R X B) W w9 := ((Out.of_below (a := W) _ (by rw [hBX]; exact L1.out)).trans (Out.of_below _ hb2)).trans (hl9.out _)
    exact ⟨two_after hap ((T2.out _ hb2).like hl9).m hr8 ho8 fun j hj => (HV.out j hj).1, o1.trans (ho8.mono (ds_rs fun j hj => (HV.out j hj).1))⟩)
  clear hr8 ho8 hf8 hl9 hcl
  go_wp2
  go_ret
  exact ⟨rfl, Fb, Rb, L, v8, D.out.1, AG.out, rfl, rfl, by omega, D.out.2⟩
set_option maxRecDepth 100000 in
set_option maxHeartbeats 2000000 in
theorem does_putS {M F R X B f r : Nat} {Fb Rb : List Nat} {L : List (Nat × Nat)} {v : Value} {W : World} (h : Two M F R X B f r Fb Rb L v W) (hb : Banks f Fb.length r Rb.length) (hag : Agree f r Fb Rb L) (s : Int) (a : Nat) (x : Int) (ha : a < 4294967296) (hL : L.length + 40 ≤ 1000000) (hap : Apart M F R X B)
    (bs : List Nat) (b off cc : Nat) (h0 : 0 < bs.length) (h40 : bs.length ≤ 40) (h256 : ∀ x ∈ bs, x < 256) (src : ∀ j x, bs[j]? = some x → W.cell? ⟨b, off + j, none⟩ = some (.int .u8 (x : Nat))) (hapb : ApartB F R X B b) :
    Calls Try.prog 13 #[.pointer (some ⟨M, 0, none⟩), .pointer (some ⟨X, 0, none⟩), .agg #[.int .i64 3, .int .i64 s, .int .u32 (a : Nat), .int .u32 x, .slice (some ⟨b, off, none⟩) bs.length cc]] W (DoesPost M F R X B f r Fb.length Rb.length (L.length + 40) W) := by
  obtain ⟨i0, hi, hz0, hz1, hz2⟩ := info_parts info_u8X
  have T1 := Lib.hid h
  have AG := Lib.hid hag
  have HV := Lib.hid (show ∀ j, v.ownBlock = some j → B ≤ j ∧ j < W.heap.size from fun j hj => h.x.own.lt j hj)
  have hXW : X < W.heap.size := h.x.lt
  have SRC := Lib.hid src
  have H256 := Lib.hid h256
  have hbW : b < W.heap.size := World.block_lt_of_cell? W _ (src 0 (bs[0]'(by omega)) (List.getElem?_eq_getElem (by omega)))
  have hFW : F < W.heap.size := (Array.getElem?_eq_some_iff.1 h.m.hF).1
  have hRW : R < W.heap.size := (Array.getElem?_eq_some_iff.1 h.m.hR).1
  have HB := Lib.hid hb
  have AP := Lib.hid hap
  have APB := Lib.hid hapb
  have t40 : decide (40 < bs.length) = false := by simp; omega
  clear h hag src h256 hb hap hapb
  go_enter Try.func13, Try.ntmps13
  go_wp2_with fail
  have B1 := Lib.hid (BoxA.new W 3 s (a : Nat) x (.slice (some ⟨b, off, none⟩) bs.length cc) 45)
  have L1 := Lib.hid (show Below W.heap.size W (W.alloc (.cells #[.int .i64 3, .int .i64 s, .int .u32 (a : Nat), .int .u32 x, .slice (some ⟨b, off, none⟩) bs.length cc] 45)) by go_grown)
  generalize W.alloc _ = W1 at *
  have hbx : W.heap.size < W1.heap.size := World.block_lt_of_cell? W1 _ B1.out.c2
  have c2 := B1.out.c2
  have T2 := Lib.hid (show ∀ w', Below W1.heap.size W1 w' → Two M F R X B f r Fb Rb L v w' from fun w' hw => T1.out.below (L1.out.trans (hw.mono L1.out.size)))
  have NB := Lib.hid (show ¬ RS X v W.heap.size from fun g => by
    rcases g with g | g
    · omega
    · have := (HV.out _ g).2; omega)
  have NBb := Lib.hid (show ¬ RS X v b from fun g => by
    rcases g with g | g
    · exact APB.out.bx g
    · have := (HV.out _ g).1; have := APB.out.bB; omega)
  have hFb : F ≠ W.heap.size ∧ R ≠ W.heap.size := by omega
  have S1 := Lib.hid (show ∀ j y, bs[j]? = some y → W1.cell? ⟨b, off + j, none⟩ = some (.int .u8 (y : Nat)) from fun j y hj => (L1.out.cell (p := ⟨b, off + j, none⟩) hbW).trans (SRC.out j y hj))
  generalize hBX : W.heap.size = bx at *
  have hbW1 : b < W1.heap.size := by omega
  have OWN := Lib.hid (show ((W1.alloc (.cells #[] 5)).drew).ownsRow W1.heap.size 5 1 (.slice (some ⟨W1.heap.size, 0, none⟩) 0 0) 0 [] from (World.ownsRow_made W1 #[] 0 (Nat.le_refl _) (by decide) rfl).drew)
  have NEWS := Lib.hid (show ∀ j u, (bs.map u8G)[j]? = some u → ((W1.alloc (.cells #[] 5)).drew).cell? ((⟨b, off, none⟩ : Addr).add j) = some u from fun j u hj => by
    have e : (⟨b, off, none⟩ : Addr).add j = ⟨b, off + j, none⟩ := by unfold Addr.add; split <;> simp_all
    rw [List.getElem?_map, Option.map_eq_some_iff] at hj
    obtain ⟨y, hy, rfl⟩ := hj
    rw [e]
    exact (World.cell?_alloc_past (w := W1) _ _ _ hbW1).trans (S1.out j y hy))
  have LEN := Lib.hid (show (bs.map u8G).length = bs.length * 1 by rw [List.length_map]; omega)
  have ONE := Lib.hid (u8G_one bs)
  have KB := Lib.hid (show Below W1.heap.size W1 (W1.alloc (.cells #[] 5)).drew from (((Below.refl _ _).alloc (Nat.le_refl _) _)).drew)
  have PUT := Lib.hid (fun (w' : World) (hm : MemIs M F R f r Fb Rb w') (ad : Addr) (cc' : Nat) (src : ∀ j u, (bs.map u8G)[j]? = some u → w'.cell? (ad.add j) = some u) => hm.put HB.out a bs ha (by omega) (by omega) H256.out ad cc' src)
  have RPUT := Lib.hid (fun (w' : World) (hx : RefIs X B f Fb.length r Rb.length L v w') (cc' : Nat) (src : ∀ j x, bs[j]? = some x → w'.cell? ⟨b, off + j, none⟩ = some (.int .u8 (x : Nat))) => rput_any hx HB.out a ha bs b off cc' (by omega) (by omega) H256.out (by omega) src NBb.out)
  clear B1 T1 SRC
  go_wp2_with fail
  go_region_held3 (fun w' => w'.cell? ⟨bx, 2, none⟩ = some (.int .u32 (a : Nat)))
    (first | go_keep | exact hcl.trans (by assumption))
    (first
    | (refine step_append_lies _ (by rfl) _ _ _ (by rfl) W1.heap.size 5 i0 (.int .u8 0) 1 1 Try.underlying43 hi hz0 hz1 hz2 rfl Nat.one_pos (.slice (some ⟨W1.heap.size, 0, none⟩) 0 0) 0 [] (by rfl) OWN.out ⟨b, off, none⟩ bs.length cc (bs.map u8G) (by rfl) LEN.out NEWS.out ONE.out (by omega) (by unfold maxLen; omega) (by omega) (by simp) (W1.heap.size + 1) (by simp) ?_
       intro g9 cap9 w9 hown hgrow hat hlt
       simp only [Nat.zero_add, List.nil_append] at hown ⊢
       have hcl := hgrow.cell_far ⟨bx, 2, none⟩ (by simp; omega) (by simp [Value.ownBlock]; omega)
       have KW := Lib.hid (show Below W1.heap.size W1 w9 from ⟨hgrow.os, hgrow.tape, hgrow.output, Nat.le_trans (by simp) hgrow.size, fun k hk => (hgrow.block k (by simp; omega) (by simp [Value.ownBlock]; omega)).trans (KB.out.block k hk)⟩)
       have HC := Lib.hid (hown.cells rfl))
    | (go_at_call 26
       refine (PUT.out _ (T2.out _ KW.out).m _ _ HC.out).mono ?_
       rintro e w8 ⟨rfl, hm8, ho8⟩
       have hcl := ho8.cell (p := ⟨bx, 2, none⟩) (by show bx < w9.heap.size; have := KW.out.size; omega) (by show ¬ (bx = F ∨ bx = R); omega))
    | (go_at_call 27
       refine (RPUT.out _ ((T2.out _ KW.out).x.out ho8 (by have := AP.out.xf; have := AP.out.xr; show ¬ (X = F ∨ X = R); omega) (fun j hj => by have := (HV.out j hj).1; have := AP.out.f; have := AP.out.r; show ¬ (j = F ∨ j = R); omega)) _ (fun j y hj => (ho8.cell (p := ⟨b, off + j, none⟩) (by show b < w9.heap.size; have := KW.out.size; omega) (by have := APB.out.bf; have := APB.out.br; show ¬ (b = F ∨ b = R); omega)).trans ((KW.out.cell (p := ⟨b, off + j, none⟩) hbW1).trans (S1.out j y hj)))).mono ?_
       rintro e w7 ⟨rfl, v7, hr7, ho7, hf7⟩
       have hcl : w7.cell? ⟨bx, 2, none⟩ = w8.cell? ⟨bx, 2, none⟩ := ho7.cell (p := ⟨bx, 2, none⟩) (by show bx < w8.heap.size; have := KW.out.size; have := ho8.size; omega) NB.out))
  have lF := putF_length f Fb.length Fb rfl a bs
  have lR := putR_length f Fb.length r Rb.length Rb rfl a bs
  have D := Lib.hid (show Two M F R X B f r (putF f Fb.length Fb a bs) (putR f Fb.length r Rb.length Rb a bs) (logP f Fb.length r Rb.length L a bs) v7 w7 ∧ Out (DS F R X B) W w7 by
    have o1 : Out (DS F R X B) W w9 := (Out.of_below (a := W) _ (by rw [hBX]; exact L1.out)).trans (Out.of_below _ KW.out)
    have o2 : Out (DS F R X B) W w8 := o1.trans (ho8.mono fun j hj => hj.elim (fun e => .inl e) (fun e => .inr (.inl e)))
    exact ⟨two_after AP.out hm8 (by rw [lF, lR]; exact hr7) ho7 fun j hj => (HV.out j hj).1, o2.trans (ho7.mono (ds_rs fun j hj => (HV.out j hj).1))⟩)
  have AG2 := Lib.hid (agree_put AG.out HB.out.e a bs)
  have LL := Lib.hid (show (logP f Fb.length r Rb.length L a bs).length ≤ L.length + 40 by
    unfold logP
    split
    · rw [List.length_append, writes_length]; omega
    · omega)
  clear hr7 ho7 hf7 hm8 ho8 hcl hown hgrow hat
  go_wp2
  go_ret
  exact ⟨rfl, _, _, _, v7, D.out.1, AG2.out, lF, lR, LL.out, D.out.2⟩
set_option maxRecDepth 100000 in
set_option maxHeartbeats 2000000 in
theorem does_putL {M F R X B f r : Nat} {Fb Rb : List Nat} {L : List (Nat × Nat)} {v : Value} {W : World} (h : Two M F R X B f r Fb Rb L v W) (hb : Banks f Fb.length r Rb.length) (hag : Agree f r Fb Rb L) (s : Int) (a : Nat) (x : Int) (ha : a < 4294967296) (hL : L.length + 40 ≤ 1000000) (hap : Apart M F R X B)
    (bs : List Nat) (n b off cc : Nat) (h0 : bs.length = 40) (h40 : 40 < n) (hnc : n ≤ cc) (hcc : cc ≤ 9223372036854775807) (h256 : ∀ x ∈ bs, x < 256) (src : ∀ j x, bs[j]? = some x → W.cell? ⟨b, off + j, none⟩ = some (.int .u8 (x : Nat))) (hapb : ApartB F R X B b) :
    Calls Try.prog 13 #[.pointer (some ⟨M, 0, none⟩), .pointer (some ⟨X, 0, none⟩), .agg #[.int .i64 3, .int .i64 s, .int .u32 (a : Nat), .int .u32 x, .slice (some ⟨b, off, none⟩) n cc]] W (DoesPost M F R X B f r Fb.length Rb.length (L.length + 40) W) := by
  obtain ⟨i0, hi, hz0, hz1, hz2⟩ := info_parts info_u8X
  have hn63 : n ≤ 9223372036854775807 := by omega
  have T1 := Lib.hid h
  have AG := Lib.hid hag
  have HV := Lib.hid (show ∀ j, v.ownBlock = some j → B ≤ j ∧ j < W.heap.size from fun j hj => h.x.own.lt j hj)
  have hXW : X < W.heap.size := h.x.lt
  have SRC := Lib.hid src
  have H256 := Lib.hid h256
  have hbW : b < W.heap.size := World.block_lt_of_cell? W _ (src 0 (bs[0]'(by omega)) (List.getElem?_eq_getElem (by omega)))
  have hFW : F < W.heap.size := (Array.getElem?_eq_some_iff.1 h.m.hF).1
  have hRW : R < W.heap.size := (Array.getElem?_eq_some_iff.1 h.m.hR).1
  have HB := Lib.hid hb
  have AP := Lib.hid hap
  have APB := Lib.hid hapb
  have t40 : decide (40 < n) = true := by simp; omega
  clear h hag src h256 hb hap hapb
  go_enter Try.func13, Try.ntmps13
  go_wp2_with fail
  have B1 := Lib.hid (BoxA.new W 3 s (a : Nat) x (.slice (some ⟨b, off, none⟩) n cc) 45)
  have L1 := Lib.hid (show Below W.heap.size W (W.alloc (.cells #[.int .i64 3, .int .i64 s, .int .u32 (a : Nat), .int .u32 x, .slice (some ⟨b, off, none⟩) n cc] 45)) by go_grown)
  generalize W.alloc _ = W1 at *
  have hbx : W.heap.size < W1.heap.size := World.block_lt_of_cell? W1 _ B1.out.c2
  have c2 := B1.out.c2
  have T2 := Lib.hid (show ∀ w', Below W1.heap.size W1 w' → Two M F R X B f r Fb Rb L v w' from fun w' hw => T1.out.below (L1.out.trans (hw.mono L1.out.size)))
  have NB := Lib.hid (show ¬ RS X v W.heap.size from fun g => by
    rcases g with g | g
    · omega
    · have := (HV.out _ g).2; omega)
  have NBb := Lib.hid (show ¬ RS X v b from fun g => by
    rcases g with g | g
    · exact APB.out.bx g
    · have := (HV.out _ g).1; have := APB.out.bB; omega)
  have hFb : F ≠ W.heap.size ∧ R ≠ W.heap.size := by omega
  have S1 := Lib.hid (show ∀ j y, bs[j]? = some y → W1.cell? ⟨b, off + j, none⟩ = some (.int .u8 (y : Nat)) from fun j y hj => (L1.out.cell (p := ⟨b, off + j, none⟩) hbW).trans (SRC.out j y hj))
  generalize hBX : W.heap.size = bx at *
  have hbW1 : b < W1.heap.size := by omega
  have OWN := Lib.hid (show ((W1.alloc (.cells #[] 5)).drew).ownsRow W1.heap.size 5 1 (.slice (some ⟨W1.heap.size, 0, none⟩) 0 0) 0 [] from (World.ownsRow_made W1 #[] 0 (Nat.le_refl _) (by decide) rfl).drew)
  have NEWS := Lib.hid (show ∀ j u, (bs.map u8G)[j]? = some u → ((W1.alloc (.cells #[] 5)).drew).cell? ((⟨b, off, none⟩ : Addr).add j) = some u from fun j u hj => by
    have e : (⟨b, off, none⟩ : Addr).add j = ⟨b, off + j, none⟩ := by unfold Addr.add; split <;> simp_all
    rw [List.getElem?_map, Option.map_eq_some_iff] at hj
    obtain ⟨y, hy, rfl⟩ := hj
    rw [e]
    exact (World.cell?_alloc_past (w := W1) _ _ _ hbW1).trans (S1.out j y hy))
  have LEN := Lib.hid (show (bs.map u8G).length = 40 * 1 by rw [List.length_map]; omega)
  have ONE := Lib.hid (u8G_one bs)
  have KB := Lib.hid (show Below W1.heap.size W1 (W1.alloc (.cells #[] 5)).drew from (((Below.refl _ _).alloc (Nat.le_refl _) _)).drew)
  have PUT := Lib.hid (fun (w' : World) (hm : MemIs M F R f r Fb Rb w') (ad : Addr) (cc' : Nat) (src : ∀ j u, (bs.map u8G)[j]? = some u → w'.cell? (ad.add j) = some u) => hm.put HB.out a bs ha (by omega) (by omega) H256.out ad cc' src)
  have RPUT := Lib.hid (fun (w' : World) (hx : RefIs X B f Fb.length r Rb.length L v w') (cc' : Nat) (src : ∀ j x, bs[j]? = some x → w'.cell? ⟨b, off + j, none⟩ = some (.int .u8 (x : Nat))) => rput_any hx HB.out a ha bs b off cc' (by omega) (by omega) H256.out (by omega) src NBb.out)
  simp only [h0] at PUT RPUT
  clear B1 T1 SRC
  go_wp2_with fail
  go_region_held3 (fun w' => w'.cell? ⟨bx, 2, none⟩ = some (.int .u32 (a : Nat)))
    (first | go_keep | exact hcl.trans (by assumption))
    (first
    | (refine step_append_lies _ (by rfl) _ _ _ (by rfl) W1.heap.size 5 i0 (.int .u8 0) 1 1 Try.underlying43 hi hz0 hz1 hz2 rfl Nat.one_pos (.slice (some ⟨W1.heap.size, 0, none⟩) 0 0) 0 [] (by rfl) OWN.out ⟨b, off, none⟩ 40 cc (bs.map u8G) (by rfl) LEN.out NEWS.out ONE.out (by omega) (by unfold maxLen; omega) (by omega) (by simp) (W1.heap.size + 1) (by simp) ?_
       intro g9 cap9 w9 hown hgrow hat hlt
       simp only [Nat.zero_add, List.nil_append] at hown ⊢
       have hcl := hgrow.cell_far ⟨bx, 2, none⟩ (by simp; omega) (by simp [Value.ownBlock]; omega)
       have KW := Lib.hid (show Below W1.heap.size W1 w9 from ⟨hgrow.os, hgrow.tape, hgrow.output, Nat.le_trans (by simp) hgrow.size, fun k hk => (hgrow.block k (by simp; omega) (by simp [Value.ownBlock]; omega)).trans (KB.out.block k hk)⟩)
       have HC := Lib.hid (hown.cells rfl))
    | (go_at_call 26
       refine (PUT.out _ (T2.out _ KW.out).m _ _ HC.out).mono ?_
       rintro e w8 ⟨rfl, hm8, ho8⟩
       have hcl := ho8.cell (p := ⟨bx, 2, none⟩) (by show bx < w9.heap.size; have := KW.out.size; omega) (by show ¬ (bx = F ∨ bx = R); omega))
    | (go_at_call 27
       refine (RPUT.out _ ((T2.out _ KW.out).x.out ho8 (by have := AP.out.xf; have := AP.out.xr; show ¬ (X = F ∨ X = R); omega) (fun j hj => by have := (HV.out j hj).1; have := AP.out.f; have := AP.out.r; show ¬ (j = F ∨ j = R); omega)) _ (fun j y hj => (ho8.cell (p := ⟨b, off + j, none⟩) (by show b < w9.heap.size; have := KW.out.size; omega) (by have := APB.out.bf; have := APB.out.br; show ¬ (b = F ∨ b = R); omega)).trans ((KW.out.cell (p := ⟨b, off + j, none⟩) hbW1).trans (S1.out j y hj)))).mono ?_
       rintro e w7 ⟨rfl, v7, hr7, ho7, hf7⟩
       have hcl : w7.cell? ⟨bx, 2, none⟩ = w8.cell? ⟨bx, 2, none⟩ := ho7.cell (p := ⟨bx, 2, none⟩) (by show bx < w8.heap.size; have := KW.out.size; have := ho8.size; omega) NB.out))
  have lF := putF_length f Fb.length Fb rfl a bs
  have lR := putR_length f Fb.length r Rb.length Rb rfl a bs
  have D := Lib.hid (show Two M F R X B f r (putF f Fb.length Fb a bs) (putR f Fb.length r Rb.length Rb a bs) (logP f Fb.length r Rb.length L a bs) v7 w7 ∧ Out (DS F R X B) W w7 by
    have o1 : Out (DS F R X B) W w9 := (Out.of_below (a := W) _ (by rw [hBX]; exact L1.out)).trans (Out.of_below _ KW.out)
    have o2 : Out (DS F R X B) W w8 := o1.trans (ho8.mono fun j hj => hj.elim (fun e => .inl e) (fun e => .inr (.inl e)))
    exact ⟨two_after AP.out hm8 (by rw [lF, lR]; exact hr7) ho7 fun j hj => (HV.out j hj).1, o2.trans (ho7.mono (ds_rs fun j hj => (HV.out j hj).1))⟩)
  have AG2 := Lib.hid (agree_put AG.out HB.out.e a bs)
  have LL := Lib.hid (show (logP f Fb.length r Rb.length L a bs).length ≤ L.length + 40 by
    unfold logP
    split
    · rw [List.length_append, writes_length]; omega
    · omega)
  clear hr7 ho7 hf7 hm8 ho8 hcl hown hgrow hat
  go_wp2
  go_ret
  exact ⟨rfl, _, _, _, v7, D.out.1, AG2.out, lF, lR, LL.out, D.out.2⟩
end Go.Proofs.Ytnkfdpkcnfefeaa
