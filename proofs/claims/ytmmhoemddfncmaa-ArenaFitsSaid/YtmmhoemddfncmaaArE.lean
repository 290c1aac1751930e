/- Contract of arena.Fit. -/
import Derived.Test.YtmmhoemddfncmaaArD
import Derived.Deep.AppendLies
namespace Go.Proofs.Ytmmhoemddfncmaa
open Go Go.RowKit
set_option linter.unusedVariables false

theorem info_room : (Try.prog.info? 43).map (fun i => (i.zero, i.size, i.bytes)) = some (some (.agg #[.int .i64 0, .int .i64 0]), 2, 16) := by kernel_rfl
theorem c2_one (l : List Rm) : ∀ u ∈ c2 l, u.oneCell' = true := by
  intro u hu
  simp only [c2, List.mem_flatMap] at hu
  obtain ⟨x, _, hx⟩ := hu
  simp at hx
  rcases hx with rfl | rfl <;> rfl
theorem grown_more {w a b : World} {g : Option Nat} (h : w.grownBy a g) (k : Below w.heap.size a b) : w.grownBy b g :=
  ⟨k.os.trans h.os, k.tape.trans h.tape, k.output.trans h.output, Nat.le_trans h.size k.size, fun j hj hne => (k.block j hj).trans (h.block j hj hne)⟩
theorem own_lower {w : World} {b b' n size : Nat} {e : TypeId} {v : Value} {xs : List Value} (h : w.ownsRow b e size v n xs) (hb : b' ≤ b) : w.ownsRow b' e size v n xs := by
  obtain ⟨h1, h | ⟨g, cap, cur, hv, hg, rest⟩⟩ := h
  · exact ⟨h1, .inl h⟩
  · exact ⟨h1, .inr ⟨g, cap, cur, hv, Nat.le_trans hb hg, rest⟩⟩
/-- all that is told of rooms -/
theorem rooms_bd {l : List Q3} (hl : AllQ l) {P : List Int} {S : FitS} (h : InvP l P S) (hP : P.length ≤ 100) : S.2.1 ≤ 104857900 := by
  have key : ∀ Q : List Int, (∀ k ∈ Q, 0 ≤ k ∧ k < l.length) → (Q.map fun k => upI (qAt l k).s).sum ≤ Q.length * 1048579 := by
    intro Q
    induction Q with
    | nil => intro _; simp
    | cons k Q ih =>
      intro hQ
      have a := ih (fun j hj => hQ j (by simp [hj]))
      have b := ok_up (hl k (hQ k (by simp)).1 (hQ k (by simp)).2)
      simp only [List.map_cons, List.sum_cons, List.length_cons]
      push_cast
      omega
  have := key P h.inn
  have := h.sum
  omega
theorem take_fold {l : List Q3} {k : Nat} {i : Int} (h : (orderC l)[k]? = some i) : ((orderC l).take (k + 1)).foldl (stepP l) (startP l) = stepP l (((orderC l).take k).foldl (stepP l) (startP l)) i := fold_next h
theorem inv_take {l : List Q3} (hl : AllQ l) (k : Nat) : InvP l ((orderC l).take k) (((orderC l).take k).foldl (stepP l) (startP l)) := by
  have h := inv_fold hl ((orderC l).take k) [] (startP l) (inv_start l) (fun j hj => order_mem.1 (List.mem_of_mem_take hj)) (by simpa using (order_nodup l).sublist (List.take_sublist _ _))
  rw [List.nil_append] at h
  exact h
/-- what stands in a row of numbers -/
theorem srow_wA {w : World} {base G c n : Nat} {xs : List Int} (h : SRow w base G c n xs) {k : Nat} (hk : k < n) : w.cell? ⟨G, k, none⟩ = some (.int .i64 (wA xs (k : Int))) ∧ w.frozen? ⟨G, k, none⟩ = false ∧ G < w.heap.size := by
  have := h.at hk
  unfold wA
  rw [Int.toNat_natCast]
  exact this

theorem ok_max {x : Q3} (h : okQ x = true) : x.s ≤ 1048576 := by unfold okQ at h; simp only [decide_eq_true_eq] at h; exact h.2.1
theorem b3_cells {w : World} {b off : Nat} {l : List Q3} (h : B3 w (some ⟨b, off, none⟩) l) {k : Nat} (hk : k < l.length) :
    w.cell? ⟨b, off + k * 3, none⟩ = some (.int .i64 (qAt l (k : Int)).s) ∧ w.cell? ⟨b, off + k * 3 + 1, none⟩ = some (.int .i64 (qAt l (k : Int)).f) ∧ w.cell? ⟨b, off + k * 3 + 2, none⟩ = some (.int .i64 (qAt l (k : Int)).t) := by
  obtain ⟨k', b', off', e, hk', e', _, c⟩ := b3_at h (x := (k : Int)) ⟨by omega, by omega⟩
  obtain ⟨rfl, rfl⟩ : b = b' ∧ off = off' := by simpa using e'
  obtain rfl : k = k' := by omega
  exact c
theorem rooms_next {l : List Q3} {W laid : List Int} {m : Nat} {i k : Int} (h : laid[m]? = some k) : roomsP l W (laid.take (m + 1)) i = roomsP l W (laid.take m) i ++ (if meetQ (qAt l i) (qAt l k) = true then [(wA W k, wA W k + upI (qAt l k).s)] else []) := by
  unfold roomsP
  rw [List.take_add_one, h, List.filter_append, List.map_append]
  congr 1
  by_cases hm : meetQ (qAt l i) (qAt l k) = true <;> simp [hm]
/-- the outer loop: where the blocks of the order's beginning lie -/
structure FitAt (l : List Q3) (wL : World) (gW b0 : Nat) (S : FitS) (v : Value) (w : World) : Prop where
  row : SRow w b0 gW l.length l.length S.1
  laid : OwnI w wL.heap.size v S.2.2
  grown : wL.grownBy w (some gW)

theorem fit_no (a : Option Addr) (c : Nat) (l : List Q3) (w : World) (hl : B3 w a l) (hm : mayL l = false) :
    Calls Try.prog 8 #[.slice a l.length c] w fun e w' => e = .returned (.tuple #[.slice none 0 0, .int .i64 0, .bool false]) ∧ Below w.heap.size w w' := by
  have C := Lib.hid (may_any a c l w hl)
  rw [hm] at C
  clear hl
  go_enter Try.func8, Try.ntmps8
  go_wp2_with fail
  refine C.out.mono ?_
  rintro e w1 ⟨rfl, hb⟩
  have HB := Lib.hid hb
  clear hb
  go_wp2_with fail
  go_ret3
  exact ⟨rfl, HB.out⟩

def FitPost (w : World) (l : List Q3) (e : Ending) (w' : World) : Prop := ∃ g, e = .returned (.tuple #[.slice (some ⟨g, 0, none⟩) l.length l.length, .int .i64 (fitP l).2.1, .bool true]) ∧ SRow w' w.heap.size g l.length l.length (fitP l).1 ∧ Below w.heap.size w w'

set_option maxRecDepth 100000 in
set_option maxHeartbeats 8000000 in
theorem fit_yes (a : Option Addr) (c : Nat) (l : List Q3) (w : World) (hl : B3 w a l) (hm : mayL l = true) :
    Calls Try.prog 8 #[.slice a l.length c] w (FitPost w l) := by
  obtain ⟨hq, hn⟩ := may_all hm
  have C := Lib.hid (may_any a c l w hl)
  rw [hm] at C
  have hlen := hl.1
  obtain ⟨n, hnn⟩ : ∃ n, n = l.length := ⟨_, rfl⟩
  have hmk := make_ints n (by omega)
  have HMK := Lib.hid hmk
  have HL := Lib.hid hl
  have HN := Lib.hid hnn
  have HQ := Lib.hid hq
  have hn2 : n ≤ 100 := by omega
  obtain ⟨i1, hi1, hy0, hy1, hy2⟩ := info_parts info_int
  obtain ⟨i0, hi0, hz0, hz1, hz2⟩ := info_parts info_room
  rw [← hnn]
  rw [← hnn] at C
  clear hl hm hnn hmk hq hlen hn
  go_enter Try.func8, Try.ntmps8
  go_wp2_with fail
  refine C.out.mono ?_
  rintro e w1 ⟨rfl, hb⟩
  have HB1 := Lib.hid hb
  have L1 := Lib.hid (HL.out.later hb)
  have hs1 := hb.size
  clear hb
  have hmk := HMK.out
  go_wp2_with fail
  clear hmk
  have MO := Lib.hid (made_own w1 n (by omega))
  have HB2 := Lib.hid (HB1.out.alloc hs1 (.cells (madeCells #[Value.int .i64 0] n) 3))
  have bA : Below w1.heap.size w1 (w1.alloc (.cells (madeCells #[Value.int .i64 0] n) 3)) := (Below.refl _ _).alloc (Nat.le_refl _) _
  have L2 := Lib.hid (L1.out.later bA)
  have hs2 : (w1.alloc (.cells (madeCells #[Value.int .i64 0] n) 3)).heap.size = w1.heap.size + 1 := by simp
  clear bA
  generalize w1.alloc (.cells (madeCells #[Value.int .i64 0] n) 3) = w2 at MO HB2 L2 hs2 ⊢
  obtain ⟨gW, hgW⟩ : ∃ g, g = w1.heap.size := ⟨_, rfl⟩
  rw [← hgW] at MO ⊢
  have HGW := Lib.hid hgW
  clear hgW
  have co0 := order_any a c l w2 L2.out (by have := HN.out; omega)
  rw [← HN.out] at co0
  have CO := Lib.hid co0
  clear co0
  go_wp2_with fail
  refine CO.out.mono ?_
  rintro e w3 ⟨gO, rfl, oO, hb3⟩
  rw [← HN.out]
  rw [← HN.out] at oO
  have HB3 := Lib.hid (HB2.out.trans (hb3.mono HB2.out.size))
  have L3 := Lib.hid (L2.out.later hb3)
  have hs3 := hb3.size
  have gOl := (oO.2.lt gO rfl).2
  have gOb := (oO.2.lt gO rfl).1
  have W3 := Lib.hid (srow_later MO.out hb3)
  have OO := Lib.hid oO
  have OC := Lib.hid (show ∀ (k : Nat) (x : Int), (orderC l)[k]? = some x → w3.cell? ⟨gO, k, none⟩ = some (.int .i64 x) from fun k x hx => by
    have hk : k < n := by
      rcases Nat.lt_or_ge k n with h | h
      · exact h
      · rw [List.getElem?_eq_none (by rw [order_len, ← HN.out]; exact h)] at hx; cases hx
    have := (OO.out.at hk).1
    rw [List.getD_eq_getElem?_getD, hx] at this
    exact this)
  clear oO hb3 CO C
  go_wp2_with fail
  go_loopw [6, 7, 22] (fun al v i wr => ∃ (k : Nat) (S : FitS), k ≤ n ∧ S = ((orderC l).take k).foldl (stepP l) (startP l) ∧ i = .int .i64 k ∧ al = .int .i64 S.2.1 ∧ FitAt l w3 gW gW S v wr) (fun _ _ i _ => n - (intOf i).toNat)
  case atStart => exact ⟨0, startP l, Nat.zero_le _, rfl, rfl, rfl, ⟨by show SRow w3 gW gW l.length l.length (List.replicate l.length 0); rw [← HN.out]; exact W3.out, World.ownsRow_nil _ _ _ _, World.grownBy.refl _ _⟩⟩
  case round =>
    obtain ⟨k, S, hk, hS, rfl, rfl, fa⟩ := hrel
    have FA := Lib.hid fa
    have HS := Lib.hid hS
    have IV := inv_take HQ.out k
    rw [← hS] at IV
    have INV := Lib.hid IV
    have hsw := fa.grown.size
    clear fa hS IV
    by_cases hlt : k < n
    · obtain ⟨ix, hx⟩ : ∃ ix, (orderC l)[k]? = some ix := ⟨_, List.getElem?_eq_getElem (by rw [order_len, ← HN.out]; exact hlt)⟩
      have HX := Lib.hid hx
      have ib := order_mem.1 (List.mem_of_getElem? hx)
      have co := FA.out.grown.cell (OC.out k ix hx) (by simp; have := HGW.out; omega)
      have HBr := Lib.hid (HB3.out.grown FA.out.grown (by have := HB1.out.size; omega) (fun k hk => by cases hk; have := HB1.out.size; have := HGW.out; omega))
      have Lr := Lib.hid (HL.out.later HBr.out)
      obtain ⟨nx, b, off, rfl, hnx, rfl, hbl, x0, x1, x2⟩ := b3_at Lr.out ib
      have gOr : gO < wr.heap.size := by omega
      have k0 : (0 : Int) ≤ (k : Int) := by omega
      have kn : (k : Int) < (n : Int) := by omega
      have QI := Lib.hid (ok_up (HQ.out _ ib.1 ib.2))
      have IB := Lib.hid ib
      obtain ⟨W, all, laid⟩ := S
      have row := FA.out.row
      have lown := FA.out.laid
      have gwl := (row.2.lt gW rfl).2
      have hlen : laid.length ≤ 100 := by
        have := INV.out.laid
        simp only at this
        rw [this, List.length_take, order_len, ← HN.out]
        omega
      obtain ⟨aL, cL, rfl, hIL⟩ := own_i lown (by show laid.length ≤ _; omega)
      have IL := Lib.hid hIL
      have RW := Lib.hid row
      have LO := Lib.hid lown
      simp only at RW LO IL ⊢
      clear hx row lown hIL hk
      obtain ⟨wo, rfl⟩ : ∃ wo : World, wo = wr := ⟨_, rfl⟩
      go_wp2_with fail
      go_loopw [10, 28] (fun t j wi => ∃ m : Nat, m ≤ laid.length ∧ j = .int .i64 m ∧ wi.ownsRow wo.heap.size 43 2 t (roomsP l W (laid.take m) nx).length (c2 (roomsP l W (laid.take m) nx)) ∧ Below wo.heap.size wo wi) (fun _ j _ => laid.length - (intOf j).toNat)
      case atStart => exact ⟨0, Nat.zero_le _, rfl, by simpa [roomsP, c2] using World.ownsRow_nil _ _ _ _, Below.refl _ _⟩
      case round =>
        obtain ⟨m, hm, rfl, tow, hb⟩ := hrel
        have TOW := Lib.hid tow
        have HB := Lib.hid hb
        have hws := hb.size
        by_cases hltm : m < laid.length
        · obtain ⟨kk, hkk⟩ : ∃ kk, laid[m]? = some kk := ⟨_, List.getElem?_eq_getElem hltm⟩
          obtain ⟨_, hnil | ⟨bL, oL, rfl, hbL, hcL⟩⟩ := IL.out
          · rw [hnil] at hltm; simp at hltm
          have kin : kk ∈ (List.take k (orderC l)) := by
            have := INV.out.laid
            simp only at this
            rw [← this]
            exact List.mem_of_getElem? hkk
          have kb := INV.out.inn kk kin
          have kbd := INV.out.bd kk kin
          have QK := Lib.hid (ok_up (HQ.out _ kb.1 kb.2))
          have QM := Lib.hid (ok_max (HQ.out _ kb.1 kb.2))
          obtain ⟨nk, b', off', rfl, hnk, e', _, y0, y1, y2⟩ := b3_at Lr.out kb
          obtain ⟨rfl, rfl⟩ : b = b' ∧ off = off' := by simpa using e'
          have cl := hcL m _ hkk
          have cw := (srow_wA RW.out (k := nk) hnk).1
          have RN := Lib.hid (rooms_next (l := l) (W := W) (i := (nx : Int)) hkk)
          have NLEN := Lib.hid (show (roomsP l W (laid.take m) nx).length ≤ 100 by
            unfold roomsP
            rw [List.length_map]
            refine Nat.le_trans (List.length_filter_le _ _) ?_
            rw [List.length_take]; omega)
          have OG := Lib.hid tow.lt
          generalize roomsP l W (laid.take m) nx = T at TOW RN NLEN OG tow ⊢
          obtain ⟨X, hX⟩ : ∃ X, X = qAt l (nx : Int) := ⟨_, rfl⟩
          obtain ⟨Y, hY⟩ : ∃ Y, Y = qAt l (nk : Int) := ⟨_, rfl⟩
          rw [← hX, ← hY] at RN
          rw [← hX] at x0 x1 x2 QI
          rw [← hY] at y0 y1 y2 QK QM kbd
          obtain ⟨wk, hwk⟩ : ∃ wk, wk = wA W (nk : Int) := ⟨_, rfl⟩
          rw [← hwk] at cw RN kbd
          obtain ⟨xs, xf, xt⟩ := X
          obtain ⟨ys, yf, yt⟩ := Y
          simp only at x0 x1 x2 y0 y1 y2 RN kbd
          have MT := Lib.hid (fun W => meet_any ⟨xs, xf, xt⟩ ⟨ys, yf, yt⟩ W)
          obtain ⟨mt, hmt⟩ : ∃ mt, mt = meetQ ⟨xs, xf, xt⟩ ⟨ys, yf, yt⟩ := ⟨_, rfl⟩
          rw [← hmt] at MT RN
          have alb := rooms_bd HQ.out INV.out (by rw [List.length_take, order_len, ← HN.out]; omega)
          simp only at alb
          have PS := Lib.hid (show ∀ w', Below wo.heap.size wr w' → w'.cell? ⟨b, off + nx * 3, none⟩ = some (.int .i64 xs) ∧ w'.cell? ⟨b, off + nx * 3 + 1, none⟩ = some (.int .i64 xf) ∧ w'.cell? ⟨b, off + nx * 3 + 2, none⟩ = some (.int .i64 xt) ∧ w'.cell? ⟨b, off + nk * 3, none⟩ = some (.int .i64 ys) ∧ w'.cell? ⟨b, off + nk * 3 + 1, none⟩ = some (.int .i64 yf) ∧ w'.cell? ⟨b, off + nk * 3 + 2, none⟩ = some (.int .i64 yt) ∧ w'.cell? ⟨gW, nk, none⟩ = some (.int .i64 wk) ∧ Below wo.heap.size wr w' from fun w' h => by
            have h2 := HB.out.trans h
            exact ⟨(h2.cell hbl).trans x0, (h2.cell hbl).trans x1, (h2.cell hbl).trans x2, (h2.cell hbl).trans y0, (h2.cell hbl).trans y1, (h2.cell hbl).trans y2, (h2.cell gwl).trans cw, h⟩)
          have cl2 := (hb.cell (p := ⟨bL, oL + m, none⟩) hbL).trans cl
          have bLr : bL < wr.heap.size := by omega
          have m0 : (0 : Int) ≤ (m : Int) := by omega
          have mn : (m : Int) < (laid.length : Int) := by omega
          have j0 : (0 : Int) ≤ (nx : Int) := by omega
          have jn : (nx : Int) < (n : Int) := by have := HN.out; omega
          have k0' : (0 : Int) ≤ (nk : Int) := by omega
          have kn' : (nk : Int) < (n : Int) := by have := HN.out; omega
          clear x0 x1 x2 y0 y1 y2 cl cw hX hY hwk hcL hkk hmt kin kb hb tow hm
          go_wp2_with fail
          obtain ⟨x0, x1, x2, y0, y1, y2, cw, _⟩ := PS.out wr (Below.refl _ _)
          go_region_held3 (fun w' => w'.cell? ⟨b, off + nx * 3, none⟩ = some (.int .i64 xs) ∧ w'.cell? ⟨b, off + nx * 3 + 1, none⟩ = some (.int .i64 xf) ∧ w'.cell? ⟨b, off + nx * 3 + 2, none⟩ = some (.int .i64 xt) ∧ w'.cell? ⟨b, off + nk * 3, none⟩ = some (.int .i64 ys) ∧ w'.cell? ⟨b, off + nk * 3 + 1, none⟩ = some (.int .i64 yf) ∧ w'.cell? ⟨b, off + nk * 3 + 2, none⟩ = some (.int .i64 yt) ∧ w'.cell? ⟨gW, nk, none⟩ = some (.int .i64 wk) ∧ Below wo.heap.size wr w')
            (first | (with_reducible assumption) | (refine PS.out _ ?_; first | (with_reducible exact hI8) | (with_reducible exact Below.refl _ _) | go_grown))
            (first
            | (go_at_call 18; (with_reducible refine (MT.out _).mono ?_); rintro e w8 ⟨rfl, hb8⟩; have hJ8 : Below wr.heap.size wr w8 := (by first | exact hb8 | (have hd : Below wr.heap.size wr wr.drew := (by go_grown); exact hd.trans hb8)); have hI8 : Below wo.heap.size wr w8 := hJ8.mono hws))
          have OW8 := Lib.hid (own_later TOW.out hJ8)
          have H8 := Lib.hid (HB.out.trans hI8)
          have I8 := Lib.hid hI8
          have hs8 := hI8.size
          have hs8' := hJ8.size
          clear x0 x1 x2 y0 y1 y2 cw cl2 hb8 hJ8 hI8
          cases mt with
          | false =>
            go_wp2_with fail
            have e := RN.out
            rw [if_neg (by simp), List.append_nil] at e
            refine ⟨⟨m + 1, by omega, by simp, by rw [e]; exact OW8.out, H8.out⟩, by simp [intOf]; omega⟩
          | true =>
            have e := RN.out
            rw [if_pos rfl] at e
            have RN2 := Lib.hid e
            clear RN e
            have sy := QK.out
            try simp only at sy
            have RD := Lib.hid (fun W => round_any ⟨ys, yf, yt⟩ W sy.1 QM.out)
            obtain ⟨up, hup⟩ : ∃ up, up = upI ys := ⟨_, rfl⟩
            rw [← hup] at RN2 kbd sy
            try simp only at RD
            rw [← hup] at RD
            obtain ⟨tp, htp⟩ : ∃ tp, tp = wk + up := ⟨_, rfl⟩
            have etp : IntKind.i64.wrap (wk + up) = tp := by rw [IntWalk.i64_in _ (by omega)]; omega
            have etp2 : wk + up = tp := htp.symm
            have etp3 : IntKind.i64.wrap tp = tp := IntWalk.i64_in _ (by omega)
            rw [← htp] at RN2
            have PS := Lib.hid (fun w' (h : Below wo.heap.size w8 w') => PS.out w' (I8.out.trans h))
            clear hup htp
            go_wp2_with fail
            obtain ⟨x0, x1, x2, y0, y1, y2, cw, _⟩ := PS.out w8 (Below.refl _ _)
            have NL1 := Lib.hid (show T.length + 1 ≤ maxLen by have := NLEN.out; unfold maxLen; omega)
            have NL2 := Lib.hid (show (T.length + 1) * 16 ≤ 140737488355328 by have := NLEN.out; omega)
            go_region_held3 (fun w' => w'.cell? ⟨b, off + nx * 3, none⟩ = some (.int .i64 xs) ∧ w'.cell? ⟨b, off + nx * 3 + 1, none⟩ = some (.int .i64 xf) ∧ w'.cell? ⟨b, off + nx * 3 + 2, none⟩ = some (.int .i64 xt) ∧ w'.cell? ⟨b, off + nk * 3, none⟩ = some (.int .i64 ys) ∧ w'.cell? ⟨b, off + nk * 3 + 1, none⟩ = some (.int .i64 yf) ∧ w'.cell? ⟨b, off + nk * 3 + 2, none⟩ = some (.int .i64 yt) ∧ w'.cell? ⟨gW, nk, none⟩ = some (.int .i64 wk) ∧ Below wo.heap.size wr w')
              (first | (with_reducible assumption) | (refine PS.out _ ?_; first | (with_reducible exact hK5) | (with_reducible exact hK9) | (with_reducible exact hK9a) | (with_reducible exact Below.refl _ _) | go_grown))
              (first
              | (go_at_call 19; (with_reducible refine (RD.out _).mono ?_); rintro e w9 ⟨rfl, hb9⟩; have hJ9 : Below w8.heap.size w8 w9 := (by first | exact hb9 | (have hd : Below w8.heap.size w8 w8.drew := (by go_grown); exact hd.trans hb9)); have hK9 : Below wo.heap.size w8 w9 := hJ9.mono (by omega); have hs9 := hJ9.size; have hK9a : Below wo.heap.size w8 (w9.alloc (.cells #[.int .i64 wk, .int .i64 tp] 43)) := hK9.alloc (by omega) _)
              | (refine step_append_lies _ (by rfl) _ _ _ (by rfl) wo.heap.size 43 i0 _ 2 16 Try.underlying40 hi0 hz0 hz1 hz2 rfl (by decide) _ T.length (c2 T) (by rfl) ((own_later OW8.out hJ9).alloc _) ⟨w9.heap.size, 0, none⟩ 1 1 (c2 [(wk, tp)]) (by rfl) (by rfl) (World.news_of_block (cs := #[.int .i64 wk, .int .i64 tp]) (t := 43) (fr := (0, 0)) (heap_alloc_new w9 _)) (c2_one _) (by decide) NL1.out NL2.out (by simp; omega) (w9.heap.size + 1) (by simp) ?_; intro gg cap w5 hown hgrow hat hlt5; have hK5 : Below wo.heap.size w8 w5 := hK9a.grown hgrow (by simp; omega) (fun k hk => (OG.out k hk).1)))
            have e2 : c2 T ++ c2 [(wk, tp)] = c2 (T ++ [(wk, tp)]) := by simp [c2]
            rw [e2] at hown
            have e3 : T.length + 1 = (T ++ [(wk, tp)]).length := by simp
            have OWN5 := Lib.hid hown
            have K5 := Lib.hid (H8.out.trans hK5)
            clear x0 x1 x2 y0 y1 y2 cw hb9 hJ9 hK9 hs9 hK9a hown hgrow hat hK5 e2
            go_wp2_with fail
            refine ⟨⟨m + 1, by omega, by simp, ?_, K5.out⟩, by simp [intOf]; omega⟩
            rw [RN2.out, ← e3]
            exact OWN5.out
        · have hm2 : m = laid.length := by omega
          have em : laid.take m = laid := by rw [hm2, List.take_of_length_le (Nat.le_refl _)]
          rw [em] at tow
          clear TOW
          have TOW := Lib.hid tow
          have hg := rooms_good HQ.out INV.out (nx : Int)
          have htop : ∀ r ∈ roomsP l W laid nx, r.2 ≤ all := fun r hr => by
            unfold roomsP at hr
            obtain ⟨j, hj, rfl⟩ := List.mem_map.mp hr
            have hjP := (List.mem_filter.mp hj).1
            have el := INV.out.laid
            simp only at el
            rw [el] at hjP
            exact (INV.out.bd j hjP).2.2
          have hTn : (roomsP l W laid nx).length ≤ 100 := by
            unfold roomsP
            rw [List.length_map]
            exact Nat.le_trans (List.length_filter_le _ _) hlen
          have alb := rooms_bd HQ.out INV.out (by rw [List.length_take, order_len, ← HN.out]; omega)
          have all0 := INV.out.all0
          simp only at alb all0
          have qi := QI.out
          have QM := ok_max (HQ.out _ ib.1 ib.2)
          obtain ⟨bp, hbp⟩ : ∃ bp, bp = placeP l (W, all, laid) nx := ⟨_, rfl⟩
          have pb := (place_best HQ.out INV.out ib.1 ib.2)
          have pb0 := pb.nonneg hg
          have pbt := (pb.top hg all0 htop).1
          rw [← hbp] at pb0 pbt
          have hgap : gapS (upI (qAt l (nx : Int)).s) (roomsP l W laid nx) = bp := hbp.symm
          have hstep : stepP l (W, all, laid) (nx : Int) = (W.set nx bp, max all (bp + upI (qAt l (nx : Int)).s), laid ++ [(nx : Int)]) := by rw [hbp]; rfl
          have HBP := Lib.hid hbp
          have CX := Lib.hid (fun w' (h : Below w.heap.size w w') => b3_cells (HL.out.later h) hnx)
          obtain ⟨X, hX⟩ : ∃ X, X = qAt l (nx : Int) := ⟨_, rfl⟩
          rw [← hX] at x0 x1 x2 qi QM hgap hstep CX
          have RD := Lib.hid (fun W => round_any X W qi.1 QM)
          obtain ⟨xs, xf, xt⟩ := X
          simp only at x0 x1 x2 qi QM hgap hstep
          try simp only at RD
          try simp only at CX
          obtain ⟨up, hup⟩ : ∃ up, up = upI xs := ⟨_, rfl⟩
          rw [← hup] at qi hgap hstep RD
          have GP := Lib.hid (fun (W' : World) (own : W'.ownsRow wo.heap.size 43 2 u10 (roomsP l W laid nx).length (c2 (roomsP l W laid nx))) (hw : wo.heap.size ≤ W'.heap.size) => gap_any wo.heap.size u10 (roomsP l W laid nx) up all W' own hw (by omega) (by omega) (by omega) hg htop all0 hTn)
          rw [hgap] at GP
          have y0 := (hb.cell (p := ⟨b, off + nx * 3, none⟩) hbl).trans x0
          have y1 := (hb.cell (p := ⟨b, off + nx * 3 + 1, none⟩) hbl).trans x1
          have y2 := (hb.cell (p := ⟨b, off + nx * 3 + 2, none⟩) hbl).trans x2
          have hbr : b < wr.heap.size := by omega
          have j0 : (0 : Int) ≤ (nx : Int) := by omega
          have jn : (nx : Int) < (n : Int) := by have := HN.out; omega
          have HST := Lib.hid hstep
          clear x0 x1 x2 hX hup hbp hgap hg htop hTn pb tow em hstep co hb
          go_wp2_with fail
          refine (RD.out _).mono ?_
          rintro e w8 ⟨rfl, hb8⟩
          have HB8 := Lib.hid (HB.out.trans (hb8.mono hws))
          have hs8 := hb8.size
          have T8 := Lib.hid (own_later TOW.out hb8)
          clear hb8
          go_wp2_with fail
          refine (GP.out _ T8.out (by omega)).mono ?_
          rintro e w9 ⟨rfl, hb9⟩
          have HB9 := Lib.hid (HB8.out.trans hb9)
          have R9 := srow_later RW.out HB9.out
          have hs9 := HB9.out.size
          obtain ⟨cc, ff, gg⟩ := R9.at (k := nx) (by omega)
          have KEY := Lib.hid (R9.set nx bp)
          have gw9 : gW < w9.heap.size := by omega
          clear hb9 R9 y0 y1 y2
          go_wp2_with fail
          have R10 := KEY.out.1
          have c10 : (w9.setCell ⟨gW, nx, none⟩ (.int .i64 bp)).cell? ⟨gW, nx, none⟩ = some (.int .i64 bp) := World.cell?_setCell_same _ _ _ cc
          have G10 := Lib.hid ((grown_more FA.out.grown (HB9.out.mono hsw)).trans KEY.out.2)
          have LO9 := own_later LO.out HB9.out
          have LO10 := LO9.kept KEY.out.2 (.inr (fun hk2 => by
            have := (LO.out.lt gW hk2).1
            have := HGW.out
            omega))
          have hs10 : (w9.setCell ⟨gW, nx, none⟩ (.int .i64 bp)).heap.size = w9.heap.size := by simp
          generalize w9.setCell ⟨gW, nx, none⟩ (.int .i64 bp) = w10 at *
          have B10 := Lib.hid (HB3.out.grown G10.out (by have := HB1.out.size; omega) (fun k hk => by cases hk; have := HB1.out.size; have := HGW.out; omega))
          obtain ⟨tp, htp⟩ : ∃ tp, tp = bp + up := ⟨_, rfl⟩
          have etp2 : bp + up = tp := htp.symm
          have etp3 : IntKind.i64.wrap tp = tp := IntWalk.i64_in _ (by omega)
          have PS := Lib.hid (show ∀ w', Below w10.heap.size w10 w' → w'.cell? ⟨b, off + nx * 3, none⟩ = some (.int .i64 xs) ∧ w'.cell? ⟨b, off + nx * 3 + 1, none⟩ = some (.int .i64 xf) ∧ w'.cell? ⟨b, off + nx * 3 + 2, none⟩ = some (.int .i64 xt) ∧ w'.cell? ⟨gW, nx, none⟩ = some (.int .i64 bp) ∧ Below w10.heap.size w10 w' from fun w' h => by
            obtain ⟨z0, z1, z2⟩ := CX.out w' (B10.out.trans (h.mono B10.out.size))
            exact ⟨z0, z1, z2, (h.cell (p := ⟨gW, nx, none⟩) (by show gW < _; omega)).trans c10, h⟩)
          have RR10 := Lib.hid R10
          have LLO10 := Lib.hid LO10
          obtain ⟨x0, x1, x2, cw, _⟩ := PS.out w10 (Below.refl _ _)
          clear htp LO9 LO10 R10 c10 cc ff
          go_region_held3 (fun w' => w'.cell? ⟨b, off + nx * 3, none⟩ = some (.int .i64 xs) ∧ w'.cell? ⟨b, off + nx * 3 + 1, none⟩ = some (.int .i64 xf) ∧ w'.cell? ⟨b, off + nx * 3 + 2, none⟩ = some (.int .i64 xt) ∧ w'.cell? ⟨gW, nx, none⟩ = some (.int .i64 bp) ∧ Below w10.heap.size w10 w')
            (first | (with_reducible assumption) | (refine PS.out _ ?_; first | (with_reducible exact hJ9) | (with_reducible exact Below.refl _ _) | go_grown))
            (first
            | (go_at_call 19; (with_reducible refine (RD.out _).mono ?_); rintro e w11 ⟨rfl, hb9⟩; have hJ9 : Below w10.heap.size w10 w11 := (by first | exact hb9 | (have hd : Below w10.heap.size w10 w10.drew := (by go_grown); exact hd.trans hb9))))
          have HJ := Lib.hid hJ9
          have LO11 := Lib.hid (own_later LLO10.out hJ9)
          have RR11 := Lib.hid (srow_later RR10.out hJ9)
          have hs11 := hJ9.size
          have VO := Lib.hid LO.out.lt
          have E1 := Lib.hid (show laid.length + 1 ≤ maxLen by simp only [maxLen]; omega)
          have ST := Lib.hid (show max all tp = (stepP l (W, all, laid) (nx : Int)).2.1 by rw [HST.out, ← etp2])
          clear x0 x1 x2 cw hb9 hJ9 etp2 etp3
          go_wp2_with ((at_builtin; refine wpList_append_own _ rfl (.tmp 82) (.tmp 84) 24 rfl w3.heap.size 3 i1 (.int .i64 0) 1 8 Try.underlying24 hi1 hy0 hy1 hy2 rfl (by decide) _ _ _ rfl (LO11.out.alloc _) ⟨_, 0, none⟩ 1 1 [iv (nx : Int)] rfl rfl (news_one _ (nx : Int) _ rfl) (iv_one [(nx : Int)]) E1.out (by omega) (by simp; omega) ?_; intro vq wq hown hgq hnq))
          have BQ : Below w3.heap.size w10 wq := ((HJ.out.mono (by omega)).alloc (by omega) _).grown hgq (by simp; omega) (fun q hq => (VO.out q hq).1)
          have RQ : SRow wq gW gW l.length l.length (W.set nx bp) := ⟨RR11.out.1, (RR11.out.2.alloc _).kept hgq (.inr (fun hk => by
            have e : (Value.slice aL laid.length cL).ownBlock = some gW := hk.symm
            have := (VO.out gW e).1
            have := HGW.out
            omega))⟩
          refine ⟨⟨k + 1, stepP l (W, all, laid) (nx : Int), by omega, by rw [take_fold HX.out, ← HS.out], by simp, by rw [ST.out], ⟨by rw [HST.out]; exact RQ, ?_, grown_more G10.out BQ⟩⟩, by simp [intOf]; omega⟩
          rw [HST.out]
          unfold OwnI
          rw [List.length_append, List.map_append]
          exact hown
    · have hk2 : k = n := by omega
      have tk : (orderC l).take k = orderC l := by rw [hk2, List.take_of_length_le (by rw [order_len, ← HN.out]; omega)]
      have e := HS.out
      rw [tk] at e
      have e : S = fitP l := e
      subst e
      have R := Lib.hid FA.out.row
      have HBr := Lib.hid (HB3.out.grown FA.out.grown (by have := HB1.out.size; have := HGW.out; omega) (fun k hk => by cases hk; have := HB1.out.size; have := HGW.out; omega))
      have hn := HN.out
      clear tk
      go_wp2_with fail
      go_ret3
      subst hn
      exact ⟨gW, rfl, ⟨R.out.1, own_lower R.out.2 (by have := HB1.out.size; have := HGW.out; omega)⟩, HBr.out⟩
end Go.Proofs.Ytmmhoemddfncmaa
