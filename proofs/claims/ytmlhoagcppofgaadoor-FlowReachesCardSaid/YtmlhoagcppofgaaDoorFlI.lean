/- Package flow: Reach, for all words. -/
import Derived.Test.YtmlhoagcppofgaaDoorFlH
namespace Go.Proofs.YtmlhoagcppofgaaDoor
open Go Go.RowKit Pl
set_option linter.unusedVariables false

theorem own_shrinkF {w : World} {base g n cap : Nat} {e : TypeId} {xs : List Value} (h : w.ownsRow base e 1 (.slice (some ⟨g, 0, none⟩) (n + 1) cap) (n + 1) xs) :
    w.ownsRow base e 1 (.slice (some ⟨g, 0, none⟩) n cap) n xs.dropLast := by
  obtain ⟨hl, ⟨h', _⟩ | ⟨g', cap', cur, h', hb, hg, hnc, hcm, hcs, htake⟩⟩ := h
  · cases h'
  · simp only [Value.slice.injEq, Option.some.injEq, Addr.mk.injEq, and_true, true_and] at h'
    obtain ⟨rfl, rfl⟩ := h'
    refine ⟨by simp [hl], .inr ⟨g, cap, cur, rfl, hb, hg, by omega, hcm, hcs, ?_⟩⟩
    rw [List.dropLast_eq_take, ← htake, List.take_take, List.length_take]
    congr 1
    rw [Array.length_toList, hcs]
    omega
theorem RcIs.popped {w W : World} {B R A O n c i : Nat} {a : Option Addr} {S : Nat → Bool} {L : List Nat} (h : RcIs w B R A O a n c S (L ++ [i]) W) :
    ∃ g cap, Boxed W O 24 (.slice (some ⟨g, 0, none⟩) (L.length + 1) cap) ∧ L.length + 1 ≤ cap ∧ cap ≤ 9223372036854775807 ∧ W.cell? ⟨g, L.length, none⟩ = some (.int .i64 (i : Int)) ∧
      RcIs w B R A O a n c S L (W.setCell ⟨O, 0, none⟩ (.slice (some ⟨g, 0, none⟩) L.length cap)) := by
  obtain ⟨x, bx, own⟩ := h.bx
  unfold OwnI at own
  have el : (castI (L ++ [i])).length = L.length + 1 := by rw [castI_len]; simp
  rw [el] at own
  obtain ⟨g, cap, rfl⟩ := ownsRow_succ own
  have nr := bx.not_row int_not_row own
  have hc := own.cellAt L.length (by omega)
  rw [castI_put, List.map_append, List.getElem?_append_right (by simp [castI_len]), List.length_map, castI_len, Nat.sub_self] at hc
  have hcap : L.length + 1 ≤ cap ∧ cap ≤ maxLen := by
    obtain ⟨_, ⟨h', _⟩ | ⟨g', cap', cur, h', hb, hg, hnc, hcm, hcs, htake⟩⟩ := own
    · cases h'
    · simp only [Value.slice.injEq, Option.some.injEq, Addr.mk.injEq, and_true, true_and] at h'
      obtain ⟨rfl, rfl⟩ := h'
      exact ⟨hnc, hcm⟩
  refine ⟨g, cap, bx, hcap.1, by have := hcap.2; unfold maxLen at this; exact this, hc, h.opened ((Below.refl O W).setCell (p := ⟨O, 0, none⟩) (Nat.le_refl _) _) ⟨_, bx.set _, ?_⟩⟩
  have sh := own_shrinkF own
  unfold OwnI
  rw [castI_len]
  rw [castI_put, List.map_append, List.map_cons, List.map_nil, List.dropLast_concat] at sh
  refine sh.kept (grownBy_setCell' W O _) (.inr ?_)
  intro e
  exact nr e.symm
/-- to which places one comes from a word, as Reach has them -/
def nxL (l : List Nat) (i : Nat) : List Nat := if (qAt l i).o = 45 then [i + 1] else nextN (qAt l i) i l.length
theorem goes45 {q : Q5} {i k : Nat} (h : q.o = 45) : goesQ q i k = decide (k = i + 1) := by
  unfold goesQ aimQ comeQ
  rw [h]
  simp [aimO, onO]
theorem nxL_goes {l : List Nat} {i b : Nat} (h : b ∈ nxL l i) : gQ l i b = true := by
  unfold nxL at h
  unfold gQ
  split at h
  · rename_i g
    rw [goes45 g]
    simp at h
    simp [h]
  · unfold nextN at h
    rw [List.mem_filter] at h
    exact h.2
theorem nxL_all {l : List Nat} {i b : Nat} (hb : b < l.length) (h : gQ l i b = true) : b ∈ nxL l i := by
  unfold gQ at h
  unfold nxL
  split
  · rename_i g
    rw [goes45 g] at h
    simp at h
    simp [h]
  · unfold nextN
    rw [List.mem_filter]
    exact ⟨by simp [hb], h⟩
theorem nxL_len (l : List Nat) (i : Nat) (hl : l.length ≤ 1000) : (nxL l i).length ≤ 1001 := by
  unfold nxL
  split
  · simp
  · have := nextN_len (qAt l i) i l.length; omega
/-- where the next ones lie: apart from all that is turned -/
def NxtAt (R O : Nat) (a : Option Addr) (N : List Nat) (W : World) : Prop := N = [] ∨ ∃ G, a = some ⟨G, 0, none⟩ ∧ G < W.heap.size ∧ G ≠ R ∧ G ≠ O ∧ FreeOf W O G ∧ ∀ (j x : Nat), N[j]? = some x → W.cell? ⟨G, j, none⟩ = some (.int .i64 (x : Int))
theorem NxtAt.next {R O : Nat} {a : Option Addr} {N : List Nat} {W W' : World} (h : NxtAt R O a N W) (hs : W.heap.size ≤ W'.heap.size) (hf : ∀ G, G < W.heap.size → G ≠ R → G ≠ O → FreeOf W O G → W'.heap[G]? = W.heap[G]? ∧ FreeOf W' O G) : NxtAt R O a N W' := by
  rcases h with h | ⟨G, h1, h2, h3, h4, h5, h6⟩
  · exact .inl h
  · have := hf G h2 h3 h4 h5
    refine .inr ⟨G, h1, Nat.lt_of_lt_of_le h2 hs, h3, h4, this.2, fun j x hj => ?_⟩
    have := h6 j x hj
    unfold World.cell? at this ⊢
    rw [(hf G h2 h3 h4 h5).1]
    exact this
theorem NxtAt.new {w W W' : World} {B R A O n c : Nat} {a : Option Addr} {S : Nat → Bool} {L : List Nat} {v : Value} {N : List Nat} (h : RcIs w B R A O a n c S L W) (hb : Below W.heap.size W W') (own : OwnI W' W.heap.size v (castI N)) : ∃ an cn, v = .slice an N.length cn ∧ N.length ≤ cn ∧ cn ≤ 9223372036854775807 ∧ NxtAt R O an N W' := by
  have hO := h.ltO
  have hRO : R < O := Nat.lt_trans h.lA h.lO
  obtain ⟨x, bx, ownx⟩ := h.bx
  have hlt := own.lt
  have own' := own
  obtain ⟨_, ⟨hv, hn⟩ | ⟨g, cap, cur, hv, hg, hh, hc, hcm, _⟩⟩ := own
  · rw [castI_len] at hn
    have : N = [] := List.eq_nil_of_length_eq_zero hn
    subst this
    exact ⟨none, 0, hv, by simp, by omega, .inl rfl⟩
  · rw [castI_len] at hv hc
    refine ⟨_, cap, hv, hc, by unfold maxLen at hcm; exact hcm, .inr ⟨g, rfl, (hlt g (by rw [hv]; rfl)).2, by omega, by omega, ?_, fun j y hj => ?_⟩⟩
    · intro z hz e
      have hz' : z = x := by
        have := (hb.cell (p := ⟨O, 0, none⟩) hO).trans bx.cell
        rw [this] at hz
        exact (Option.some.inj hz).symm
      rw [hz'] at e
      have := (ownx.lt g e).2
      omega
    · have := own'.cells (g := g) (by rw [hv]; rfl) j (iv (y : Int)) (by unfold castI; rw [List.getElem?_map, List.getElem?_map, hj]; rfl)
      rw [add_at, Nat.zero_add] at this
      exact this
theorem NxtAt.one {w W : World} {B R A O n c i : Nat} {a : Option Addr} {S : Nat → Bool} {L : List Nat} (h : RcIs w B R A O a n c S L W) : NxtAt R O (some ⟨W.heap.size, 0, none⟩) [i + 1] (W.alloc (.cells #[.int .i64 ((i : Int) + 1)] 3)) := by
  have hO := h.ltO
  have hRO : R < O := Nat.lt_trans h.lA h.lO
  obtain ⟨x, bx, ownx⟩ := h.bx
  refine .inr ⟨W.heap.size, rfl, by simp, by omega, by omega, ?_, fun j y hj => ?_⟩
  · intro z hz e
    have hz' : z = x := by
      have := (World.cell?_alloc_past (w := W) (.cells #[.int .i64 ((i : Int) + 1)] 3) _ _ hO).trans bx.cell
      rw [this] at hz
      exact (Option.some.inj hz).symm
    rw [hz'] at e
    have := (ownx.lt _ e).2
    omega
  · cases j with
    | zero => simp at hj; subst hj; rw [World.cell?_alloc_new]; simp
    | succ j => simp at hj
theorem rc_begin (w : World) (a : Option Addr) (n c : Nat) (hn : n ≤ 1000) : RcIs w w.heap.size (w.heap.size + 1) (w.heap.size + 1 + 1) (w.heap.size + 1 + 1 + 1) a n c (fun _ => false) [] ((((w.alloc (.cells #[.slice a n c] 22)).alloc (.cells (madeCells #[Value.bool false] n) 4)).alloc (.cells #[.slice (some ⟨w.heap.size + 1, 0, none⟩) n n] 42)).alloc (.cells #[.slice none 0 0] 24)) := by
  have O1 := World.ownsRow_lit (base := w.heap.size) (size := 1) (e := 4) (w.alloc (.cells #[.slice a n c] 22)) (madeCells #[Value.bool false] n) n (by simp) (by simp only [maxLen]; omega) (by rw [size_madeCells]; omega)
  rw [made_rowB] at O1
  refine { cB := ?_, cA := ?_, row := ?_, bx := ⟨.slice none 0 0, ?_, own_nilI _ _⟩, lB := Nat.le_refl _, lR := by omega, lA := by omega, lO := by omega, bl := by go_grown }
  · rw [World.cell?_alloc_past _ _ _ (by simp; omega), World.cell?_alloc_past _ _ _ (by simp; omega), World.cell?_alloc_past _ _ _ (by simp), World.cell?_alloc_new]; rfl
  · rw [World.cell?_alloc_past _ _ _ (by simp)]
    have := World.cell?_alloc_new ((w.alloc (.cells #[.slice a n c] 22)).alloc (.cells (madeCells #[Value.bool false] n) 4)) #[.slice (some ⟨w.heap.size + 1, 0, none⟩) n n] 42 0
    simpa using this
  · have := (O1.alloc (.cells #[.slice (some ⟨w.heap.size + 1, 0, none⟩) n n] 42)).alloc (.cells #[.slice none 0 0] 24)
    simpa using this
  · have := Boxed.new (((w.alloc (.cells #[.slice a n c] 22)).alloc (.cells (madeCells #[Value.bool false] n) 4)).alloc (.cells #[.slice (some ⟨w.heap.size + 1, 0, none⟩) n n] 42)) 24 (.slice none 0 0)
    simpa using this
set_option maxRecDepth 100000 in
set_option maxHeartbeats 1000000 in
theorem ireach_in (a : Option Addr) (c : Nat) (l : List Nat) (s : Nat) (w : World) (ht : T3 w) (hw : WordsC w a l c) (hs : s < l.length) (hl : l.length ≤ 30) :
    Calls Tryd.prog 16 #[.slice a l.length c, .int .i64 (s : Nat)] w fun e w' => ∃ g S, e = .returned (.slice (some ⟨g, 0, none⟩) l.length l.length) ∧ BAt w' (some ⟨g, 0, none⟩) S l.length ∧ (S s = true ∧ soundS (gQ l) l.length s S ∧ closedS (gQ l) l.length S) ∧ Below w.heap.size w w' := by
  have hmk := fun W => run_make_row' (P := Tryd.prog) 42 4 (.bool false) 1 Tryd.underlying42 info_boolF rfl .i64 .i64 l.length (by omega) (by omega) W
  have HW := Lib.hid hw
  have HT := Lib.hid ht
  clear hw ht
  go_enter Tryd.func16, Tryd.ntmps16
  go_wp2_with fail
  have R0 := rc_begin w a l.length c (by omega)
  have BND := Lib.hid (cntS_set (S := fun _ => false) hs rfl)
  generalize World.alloc (World.alloc (World.alloc (World.alloc w _) _) _) _ = W1 at *
  refine (come_new s R0 (by omega) hs rfl (by simp)).mono ?_
  rintro e w1 ⟨rfl, hR1, _, _⟩
  have R1 := Lib.hid hR1
  clear R0 hR1 hmk
  go_wp2_with fail
  go_loopg [] (2 * l.length) (fun gk wr => ∃ (S : Nat → Bool) (L : List Nat), RcIs w w.heap.size (w.heap.size + 1) (w.heap.size + 1 + 1) (w.heap.size + 1 + 1 + 1) a l.length c S L wr ∧ SInv (gQ l) l.length s S L ∧ 2 * (l.length - cntS S l.length) + L.length ≤ gk ∧ gk ≤ 2 * l.length)
  case atStart => exact ⟨_, [s], R1.out, sinv_begin hs, by have := BND.out; simp; omega, Nat.le_refl _⟩
  case round =>
    obtain ⟨S, L, hR, hI, hgk, hg2⟩ := hrel
    rcases List.eq_nil_or_concat L with rfl | ⟨L', i, rfl⟩
    · obtain ⟨x, bx, own⟩ := hR.bx
      obtain ⟨ax, cx, rfl⟩ := own_formF own
      have cO := bx.cell
      have cA := hR.cA
      have RW := Lib.hid hR.row
      have BL := Lib.hid hR.bl
      have IN := Lib.hid hI
      clear hR hI bx own
      go_wp2_with fail
      go_ret
      exact ⟨_, S, rfl, row_at RW.out, ⟨IN.out.at0, IN.out.snd, sinv_end IN.out⟩, BL.out⟩
    · rw [List.concat_eq_append] at *
      obtain ⟨g, cap, bx, hc1, hc2, ci, hR2⟩ := hR.popped
      have cO := bx.cell
      have fO := bx.frozen
      have cB2 := hR2.cB
      have u1 := IntWalk.i64_in ((L'.length : Int) + 1 - 1) (by omega)
      have e1 : ((castI (L' ++ [i])).length : Nat) = L'.length + 1 := by rw [castI_len]; simp
      have R2 := Lib.hid hR2
      have MI := Lib.hid hI.pop
      have LB := Lib.hid hgk
      have hI0 := Lib.hid hI
      clear hR hI hR2 bx
      have iL := (hI0.out.opn i (by simp)).1
      have WW := Lib.hid (HW.out.later R2.out.bl)
      have TT := Lib.hid (HT.out.later R2.out.bl)
      have NG := Lib.hid (fun b => nxL_goes (l := l) (i := i) (b := b))
      have NA := Lib.hid (fun b hb hg => nxL_all (l := l) (i := i) (b := b) hb hg)
      have NL := nxL_len l i (by omega)
      by_cases h45 : (qAt l i).o = 45
      · have eN : nxL l i = [i + 1] := by unfold nxL; rw [if_pos h45]
        rw [eN] at NG NA NL
        have CJ := Lib.hid (inext_jalr a c l i _ TT.out WW.out iL (by omega) h45)
        have ui := IntWalk.i64_in ((i : Int) + 1) (by omega)
        clear h45 eN TT WW
        go_wp2_with fail
        refine CJ.out.mono ?_
        rintro e w3 ⟨rfl, hb3⟩
        have R3 := Lib.hid (R2.out.later hb3)
        have NX := Lib.hid (NxtAt.one (i := i) R3.out)
        have R4 := Lib.hid (R3.out.later (W' := w3.alloc (.cells #[.int .i64 ((i : Int) + 1)] 3)) ((Below.refl _ _).alloc (Nat.le_refl _) _))
        clear hb3
        obtain ⟨N, hNe⟩ : ∃ N, N = [i + 1] := ⟨_, rfl⟩
        have hNl : N.length = 1 := by rw [hNe]; rfl
        rw [← hNe] at NG NA NX
        have HNL := Lib.hid hNl
        clear hNl hNe
        go_wp2_with fail
        go_loopw [47] (fun i47 wr => ∃ (j : Nat) (S : Nat → Bool) (L : List Nat), j ≤ 1 ∧ i47 = .int .i64 j ∧ RcIs w w.heap.size (w.heap.size + 1) (w.heap.size + 1 + 1) (w.heap.size + 1 + 1 + 1) a l.length c S L wr ∧ SMid (gQ l) l.length s i (N.take j) S L ∧ 2 * (l.length - cntS S l.length) + L.length + 1 ≤ gk ∧ NxtAt (w.heap.size + 1) (w.heap.size + 1 + 1 + 1) (some ⟨w3.heap.size, 0, none⟩) N wr) (fun i47 _ => 1 - (intOf i47).toNat)
        case atStart => exact ⟨0, S, L', Nat.zero_le _, rfl, R4.out, by rw [List.take_zero]; exact MI.out, by have := LB.out; simp at this; omega, NX.out⟩
        case round =>
          obtain ⟨j, S2, L2, hj, rfl, hR5, hM, hm, hN⟩ := hrel
          by_cases hlt : j < 1
          · obtain ⟨b, hb⟩ : ∃ b, N[j]? = some b := ⟨_, List.getElem?_eq_getElem (by rw [HNL.out]; exact hlt)⟩
            have hT : N.take (j + 1) = N.take j ++ [b] := by rw [List.take_add_one, hb]; rfl
            have hgb := NG.out b (List.mem_of_getElem? hb)
            have hN0 := hN
            rcases hN with hnil | ⟨G, hGe, hG, hGR, hGO, hF, hcs⟩
            · have := HNL.out; rw [hnil] at this; simp at this
            cases hGe
            have cG := hcs j b hb
            have uj := IntWalk.i64_in ((j : Int) + 1) (by omega)
            have NX5 := Lib.hid hN0
            have R5 := Lib.hid hR5
            have M5 := Lib.hid hM
            have L5h := Lib.hid hm
            by_cases hnew : b < l.length ∧ S2 b = false
            · have CM := Lib.hid (come_new b hR5 (by omega) hnew.1 hnew.2 (by omega))
              have M6 := Lib.hid (hM.new hnew.1 hgb)
              have CN := Lib.hid (cntS_set (n := l.length) hnew.1 hnew.2)
              have CL := Lib.hid (cntS_le (setS S2 b) l.length)
              have T6 := Lib.hid hT
              clear hR5 hM hm hN0 hnew hcs hT hgb hb hF
              go_wp2_with fail
              refine CM.out.mono ?_
              rintro e w5 ⟨rfl, hR6, hsz, hfr⟩
              have R6 := Lib.hid hR6
              have NX6 := Lib.hid (NX5.out.next hsz hfr)
              clear hR6 hfr
              go_wp2_with fail
              refine ⟨⟨j + 1, _, _, by omega, rfl, R6.out, by rw [T6.out]; exact M6.out, ?_, NX6.out⟩, by simp [intOf]; omega⟩
              have := CN.out
              have := CL.out
              have := L5h.out
              simp
              omega
            · have CM := Lib.hid (come_old (b : Int) hR5 (by omega) (fun q hq hqn => by
                have : q = b := by omega
                subst this
                cases hx : S2 q
                · exact absurd ⟨hqn, hx⟩ hnew
                · rfl))
              have M6 := Lib.hid (hM.old (b := b) (fun hbn => by
                cases hx : S2 b
                · exact absurd ⟨hbn, hx⟩ hnew
                · rfl))
              have T6 := Lib.hid hT
              clear hR5 hM hm hN0 hnew hcs hT hgb hb hF
              go_wp2_with fail
              refine CM.out.mono ?_
              rintro e w5 ⟨rfl, rfl⟩
              go_wp2_with fail
              refine ⟨⟨j + 1, S2, L2, by omega, rfl, R5.out, by rw [T6.out]; exact M6.out, L5h.out, NX5.out⟩, by simp [intOf]; omega⟩
          · obtain rfl : j = 1 := by omega
            rw [← HNL.out, List.take_length] at hM
            have I6 := Lib.hid (hM.done NA.out)
            have R5 := Lib.hid hR5
            have L5h := Lib.hid hm
            clear hR5 hM hm hN
            go_wp2_with fail
            go_roundg (gk - 1)
            case measure => have := L5h.out; omega
            case rel => exact ⟨S2, L2, R5.out, I6.out, by have := L5h.out; omega, by omega⟩
      · have eN : nxL l i = nextN (qAt l i) i l.length := by unfold nxL; rw [if_neg h45]
        have CJ := Lib.hid (inext_any a c l i _ TT.out WW.out iL (by omega) h45)
        rw [← eN] at CJ
        clear h45 eN TT WW
        generalize nxL l i = N at *
        go_wp2_with fail
        refine CJ.out.mono ?_
        rintro e w3 ⟨v3, rfl, own3, hb3⟩
        have R4 := Lib.hid (R2.out.later hb3)
        obtain ⟨an, cn, rfl, hn1, hn2, hnx⟩ := NxtAt.new R2.out hb3 own3
        have NX := Lib.hid hnx
        clear hb3 own3 hnx CJ
        go_wp2_with fail
        go_loopw [47] (fun i47 wr => ∃ (j : Nat) (S : Nat → Bool) (L : List Nat), j ≤ N.length ∧ i47 = .int .i64 j ∧ RcIs w w.heap.size (w.heap.size + 1) (w.heap.size + 1 + 1) (w.heap.size + 1 + 1 + 1) a l.length c S L wr ∧ SMid (gQ l) l.length s i (N.take j) S L ∧ 2 * (l.length - cntS S l.length) + L.length + 1 ≤ gk ∧ NxtAt (w.heap.size + 1) (w.heap.size + 1 + 1 + 1) an N wr) (fun i47 _ => N.length - (intOf i47).toNat)
        case atStart => exact ⟨0, S, L', Nat.zero_le _, rfl, R4.out, by rw [List.take_zero]; exact MI.out, by have := LB.out; simp at this; omega, NX.out⟩
        case round =>
          obtain ⟨j, S2, L2, hj, rfl, hR5, hM, hm, hN⟩ := hrel
          by_cases hlt : j < N.length
          · obtain ⟨b, hb⟩ : ∃ b, N[j]? = some b := ⟨_, List.getElem?_eq_getElem hlt⟩
            have hT : N.take (j + 1) = N.take j ++ [b] := by rw [List.take_add_one, hb]; rfl
            have hgb := NG.out b (List.mem_of_getElem? hb)
            have hN0 := hN
            rcases hN with hnil | ⟨G, rfl, hG, hGR, hGO, hF, hcs⟩
            · rw [hnil] at hlt; simp at hlt
            have cG := hcs j b hb
            have uj := IntWalk.i64_in ((j : Int) + 1) (by omega)
            have NX5 := Lib.hid hN0
            have R5 := Lib.hid hR5
            have M5 := Lib.hid hM
            have L5h := Lib.hid hm
            by_cases hnew : b < l.length ∧ S2 b = false
            · have CM := Lib.hid (come_new b hR5 (by omega) hnew.1 hnew.2 (by omega))
              have M6 := Lib.hid (hM.new hnew.1 hgb)
              have CN := Lib.hid (cntS_set (n := l.length) hnew.1 hnew.2)
              have CL := Lib.hid (cntS_le (setS S2 b) l.length)
              have T6 := Lib.hid hT
              clear hR5 hM hm hN0 hnew hcs hT hgb hb hF
              go_wp2_with fail
              refine CM.out.mono ?_
              rintro e w5 ⟨rfl, hR6, hsz, hfr⟩
              have R6 := Lib.hid hR6
              have NX6 := Lib.hid (NX5.out.next hsz hfr)
              clear hR6 hfr
              go_wp2_with fail
              refine ⟨⟨j + 1, _, _, by omega, rfl, R6.out, by rw [T6.out]; exact M6.out, ?_, NX6.out⟩, by simp [intOf]; omega⟩
              have := CN.out
              have := CL.out
              have := L5h.out
              simp
              omega
            · have CM := Lib.hid (come_old (b : Int) hR5 (by omega) (fun q hq hqn => by
                have : q = b := by omega
                subst this
                cases hx : S2 q
                · exact absurd ⟨hqn, hx⟩ hnew
                · rfl))
              have M6 := Lib.hid (hM.old (b := b) (fun hbn => by
                cases hx : S2 b
                · exact absurd ⟨hbn, hx⟩ hnew
                · rfl))
              have T6 := Lib.hid hT
              clear hR5 hM hm hN0 hnew hcs hT hgb hb hF
              go_wp2_with fail
              refine CM.out.mono ?_
              rintro e w5 ⟨rfl, rfl⟩
              go_wp2_with fail
              refine ⟨⟨j + 1, S2, L2, by omega, rfl, R5.out, by rw [T6.out]; exact M6.out, L5h.out, NX5.out⟩, by simp [intOf]; omega⟩
          · obtain rfl : j = N.length := by omega
            rw [List.take_length] at hM
            have I6 := Lib.hid (hM.done NA.out)
            have R5 := Lib.hid hR5
            have L5h := Lib.hid hm
            clear hR5 hM hm hN
            go_wp2_with fail
            go_roundg (gk - 1)
            case measure => have := L5h.out; omega
            case rel => exact ⟨S2, L2, R5.out, I6.out, by have := L5h.out; omega, by omega⟩
end Go.Proofs.YtmlhoagcppofgaaDoor
