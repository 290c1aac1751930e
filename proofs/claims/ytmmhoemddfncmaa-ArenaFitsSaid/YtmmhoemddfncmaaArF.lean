/- Contract of the document's Fit. -/
import Derived.Test.YtmmhoemddfncmaaArG
import Derived.Test.YtmmhoemddfncmaaArZ
import Derived.Deep.LoopGhost
namespace Go.Proofs.Ytmmhoemddfncmaa
open Go Go.RowKit
set_option linter.unusedVariables false

def RFitPost (w : World) (l : List Q3) (e : Ending) (w' : World) : Prop := ∃ g c, e = .returned (.tuple #[.slice (some ⟨g, 0, none⟩) l.length c, .int .i64 (fitP l).2.1]) ∧ SRow w' w.heap.size g c l.length (fitP l).1 ∧ Below w.heap.size w w'
theorem srow_nat {w : World} {base G c n : Nat} {A : List Int} (h : SRow w base G c n A) : NAt w (some ⟨G, 0, none⟩) A n :=
  ⟨h.1, .inr ⟨G, 0, rfl, (h.2.lt G rfl).2, fun k hk => by rw [Nat.zero_add]; exact (srow_wA h hk).1⟩⟩

theorem own2_shape {w : World} {base : Nat} {v : Value} {T : List Rm} (h : w.ownsRow base 48 2 v T.length (c2 T)) (hT : T ≠ []) : ∃ G c, v = .slice (some ⟨G, 0, none⟩) T.length c ∧ base ≤ G ∧ G < w.heap.size ∧ ∀ (k : Nat) (x : Rm), T[k]? = some x → w.cell? ⟨G, k * 2, none⟩ = some (.int .i64 x.1) ∧ w.cell? ⟨G, k * 2 + 1, none⟩ = some (.int .i64 x.2) := by
  have h' := h
  obtain ⟨h1, ⟨hv, hn⟩ | ⟨g, cap, cur, hv, hg, hh, hc, hcm, _⟩⟩ := h
  · exact absurd (List.eq_nil_of_length_eq_zero hn) hT
  · rw [hv] at h'
    refine ⟨g, cap, hv, hg, (h'.lt g rfl).2, fun k x hx => ?_⟩
    have hk : k < T.length := by
      rcases Nat.lt_or_ge k T.length with h | h
      · exact h
      · rw [List.getElem?_eq_none h] at hx; cases hx
    obtain ⟨e0, e1⟩ := c2_at0 T k x hx
    exact ⟨(h'.cellAt (k * 2) (by omega)).trans e0, (h'.cellAt (k * 2 + 1) (by omega)).trans e1⟩

set_option maxRecDepth 100000 in
set_option maxHeartbeats 16000000 in
theorem rfit_any (a : Option Addr) (c : Nat) (l : List Q3) (w : World) (hl : B3 w a l) (hm : mayL l = true) :
    Calls Try.prog 11 #[.slice a l.length c] w (RFitPost w l) := by
  obtain ⟨hq, hn⟩ := may_all hm
  have HQ := Lib.hid hq
  have HNL := Lib.hid hn
  have HL := Lib.hid hl
  obtain ⟨i1, hi1, hy0, hy1, hy2⟩ := info_parts info_int
  have NX := Lib.hid (fun (W : World) (h : Below w.heap.size w W) (g cg : Nat) (A : List Int) (hA : NAt W (some ⟨g, 0, none⟩) A l.length) => rnext_any a c l (some ⟨g, 0, none⟩) cg A W (hl.later h) hA)
  have GA := Lib.hid (fun (W : World) (h : Below w.heap.size w W) (g cg : Nat) (A : List Int) (hA : NAt W (some ⟨g, 0, none⟩) A l.length) (hP : PlaceB A l.length) (i : Int) (hi : InL l i) => rgaps_any a c l (some ⟨g, 0, none⟩) cg A W (hl.later h) hq hn hA hP i hi)
  have hlen := hl.1
  obtain ⟨n, hnn⟩ : ∃ n, n = l.length := ⟨_, rfl⟩
  have HN := Lib.hid hnn
  rw [← hnn] at NX GA hn hlen ⊢
  have OW0 : (w.alloc (.cells #[] 3)).ownsRow w.heap.size 3 1 (.slice (some ⟨w.heap.size, 0, none⟩) 0 0) 0 [] := World.ownsRow_lit w #[] 0 (Nat.le_refl _) (by decide) rfl
  have OW := Lib.hid OW0
  have BB := Lib.hid (show Below w.heap.size w (w.alloc (.cells #[] 3)) from (Below.refl _ _).alloc (Nat.le_refl _) _)
  have EQ := Lib.hid (show (RFitPost w l) = fun e w' => ∃ g c, e = .returned (.tuple #[.slice (some ⟨g, 0, none⟩) l.length c, .int .i64 (fitP l).2.1]) ∧ SRow w' w.heap.size g c l.length (fitP l).1 ∧ Below w.heap.size w w' from rfl)
  clear hl hq hnn OW0 hm
  go_enter Try.func11, Try.ntmps11
  go_wp2_with fail
  generalize w.alloc (.cells #[] 3) = w1 at OW BB ⊢
  obtain ⟨H0, hH0⟩ : ∃ H, H = w.heap.size := ⟨_, rfl⟩
  go_loopw [4, 6] (fun va i wr => ∃ k g cg : Nat, k ≤ n ∧ i = .int .i64 k ∧ va = .slice (some ⟨g, 0, none⟩) k cg ∧ wr.ownsRow w.heap.size 3 1 (.slice (some ⟨g, 0, none⟩) k cg) k ((List.replicate k (-1 : Int)).map iv) ∧ Below w.heap.size w wr) (fun _ i _ => n - (intOf i).toNat)
  case atStart => exact ⟨0, w.heap.size, 0, Nat.zero_le _, rfl, rfl, OW.out, BB.out⟩
  case round =>
    obtain ⟨k, g, cg, hk, rfl, rfl, own, hb⟩ := hrel
    have HB := Lib.hid hb
    have OWN := Lib.hid own
    have hws := hb.size
    have lg := own.lt g rfl
    by_cases hlt : k < n
    · have E1 := Lib.hid (show k + 1 ≤ maxLen by simp only [maxLen]; omega)
      have E2 := Lib.hid (show (k + 1) * 8 ≤ 140737488355328 by omega)
      clear own hb
      go_wp2_with ((at_builtin; refine wpList_append_lies _ rfl (.tmp 22) (.tmp 23) 24 rfl w.heap.size 3 i1 (.int .i64 0) 1 8 Try.underlying24 hi1 hy0 hy1 hy2 rfl (by decide) (.slice (some ⟨g, 0, none⟩) k cg) k ((List.replicate k (-1 : Int)).map iv) rfl (OWN.out.alloc _) ⟨_, 0, none⟩ 1 1 [iv (-1)] rfl rfl (news_one _ (-1) _ rfl) (iv_one [-1]) (by decide) E1.out E2.out (by simp; omega) (wr.heap.size + 1) (by simp) ?_; intro g2 c2 w2 hown hg hat hlt2))
      have B2 : Below w.heap.size w w2 := (HB.out.alloc hws _).grown hg (by simp; omega) (fun j hj => by cases hj; exact lg.1)
      refine ⟨⟨k + 1, g2, c2, by omega, by simp, rfl, ?_, B2⟩, by simp [intOf]; omega⟩
      have e : (List.replicate (k + 1) (-1 : Int)).map iv = (List.replicate k (-1 : Int)).map iv ++ [iv (-1)] := by rw [List.replicate_succ', List.map_append]; rfl
      rw [e]
      exact hown
    · have hk2 : n = k := by omega
      subst hk2
      have R0 : SRow wr w.heap.size g cg n (List.replicate n (-1)) := ⟨by simp, own⟩
      have RR0 := Lib.hid R0
      have B0 := both_start l
      rw [← HN.out] at B0
      have BO := Lib.hid B0
      clear own hb B0 OWN hk
      go_wp2_with fail
      refine (NX.out wr HB.out g cg _ (by have := srow_nat R0; exact this)).mono ?_
      rintro e w2 ⟨rfl, hb2⟩
      have B2 := Lib.hid (HB.out.trans (hb2.mono hws))
      have R2 := Lib.hid (srow_later R0 hb2)
      clear hb2 R0 RR0
      go_wp2_with fail
      go_loopg [5, 7] n (fun gk t i wi => ∃ (k : Nat) (A : List Int) (tot : Int), k + gk = n ∧ t = .int .i64 tot ∧ i = .int .i64 (nextR l A) ∧ Both l ((orderC l).take k) (((orderC l).take k).foldl (stepP l) (startP l)) (A, tot) ∧ SRow wi w.heap.size g cg n A ∧ Below w.heap.size w wi)
      case atStart => exact ⟨0, List.replicate n (-1), 0, by omega, rfl, rfl, BO.out, R2.out, B2.out⟩
      case round =>
        obtain ⟨k, A, tot, hkn, rfl, rfl, hBo, hR, hB⟩ := hrel
        have HR := Lib.hid hR
        have HB := Lib.hid hB
        have HBo := Lib.hid hBo
        have hws2 := hB.size
        have KN := Lib.hid hkn
        by_cases hlt : k < n
        · have hko : k < (orderC l).length := by rw [order_len, ← HN.out]; exact hlt
          obtain ⟨ix, hix⟩ : ∃ ix, (orderC l)[k]? = some ix := ⟨_, List.getElem?_eq_getElem hko⟩
          obtain ⟨hnx, hib, hpl, hpb, htb, hst⟩ := round_facts HQ.out HNL.out hBo hix
          rw [hnx]
          have HST := Lib.hid hst
          have HPL := Lib.hid (show PlaceB A n from by rw [HN.out]; exact hpl)
          obtain ⟨nx, b, off, rfl, hnxl, rfl, hbb, x0, x1, x2⟩ := b3_at (HL.out.later HB.out) hib
          have QY := ok_up (HQ.out _ hib.1 hib.2)
          have QM := ok_max (HQ.out _ hib.1 hib.2)
          have CX := Lib.hid (fun w' (h : Below w.heap.size w w') => (b3_cells (HL.out.later h) hnxl).1)
          have gg := (hR.2.lt g rfl).2
          have GAK := Lib.hid (fun (W : World) (h : Below wr.heap.size wr W) => GA.out W (HB.out.trans (h.mono hws2)) g cg A (srow_nat (srow_later HR.out h)) HPL.out (nx : Int) hib)
          have HA := Lib.hid hpb
          rw [show placeR l A (nx : Int) = pickR (upI (qAt l (nx : Int)).s) (gapsR (roomsR l A (nx : Int))) from rfl] at hpb hst
          have GB2 := Lib.hid (show GapB2 (gapsR (roomsR l A (nx : Int))) from gaps_bd HQ.out hpl)
          have GL := gaps_len l A (nx : Int)
          have GN := Lib.hid (gaps_ne (size := upI (qAt l (nx : Int)).s) (by omega) (roomsR_good (i := (nx : Int)) HQ.out hpl).1)
          generalize gapsR (roomsR l A (nx : Int)) = G at GAK hpb hst GB2 GL GN
          obtain ⟨X, hX⟩ : ∃ X, X = (qAt l (nx : Int)).s := ⟨_, rfl⟩
          rw [← hX] at x0 QY QM CX hpb hst
          have RU := Lib.hid (fun W => (rup_any X W QY.1 QM).mono (fun e w' h => show e = .returned (.int .i64 (upI X)) ∧ w' = W from h))
          obtain ⟨up, hup⟩ : ∃ up, up = upI X := ⟨_, rfl⟩
          rw [← hup] at QY hpb hst RU
          rw [Int.toNat_natCast] at hst
          have HST := Lib.hid hst
          have PS := Lib.hid (show ∀ w', Below wr.heap.size wr w' → w'.cell? ⟨b, off + nx * 3, none⟩ = some (.int .i64 X) ∧ Below wr.heap.size wr w' from fun w' h => ⟨CX.out w' (HB.out.trans (h.mono hws2)), h⟩)
          have hnxn : nx < n := by rw [HN.out]; exact hnxl
          have hbr : b < wr.heap.size := hbb
          have j0 : (0 : Int) ≤ (nx : Int) := by omega
          have jn : (nx : Int) < (n : Int) := by omega
          have gl3 : G.length ≤ n + 1 := by rw [HN.out]; exact GL
          clear hst hX hup x1 x2 hR hB hBo hpl hib hnx hix GL
          go_wp2_with fail
          go_region_held3 (fun w' => w'.cell? ⟨b, off + nx * 3, none⟩ = some (.int .i64 X) ∧ Below wr.heap.size wr w')
            (first | (with_reducible assumption) | (refine PS.out _ ?_; first | (with_reducible exact hJ8) | (with_reducible exact Below.refl _ _) | go_grown))
            (first
            | (go_at_call 22; (with_reducible refine (GAK.out _ (by first | (with_reducible exact Below.refl _ _) | go_grown)).mono ?_); rintro e w8 ⟨v8, rfl, ho8, hb8⟩; have hJ8 : Below wr.heap.size wr w8 := (by first | exact hb8 | (have hd : Below wr.heap.size wr wr.drew := (by go_grown); exact hd.trans (hb8.mono (by simp)))))
            | (go_at_call 14; (with_reducible refine (RU.out _).mono ?_); rintro e w9 ⟨rfl, rfl⟩))
          obtain ⟨g2, c2', rfl, hgb, hgl, hcg⟩ := own2_shape ho8 GN.out
          have C8 := Lib.hid hcg
          have B8 := Lib.hid hJ8
          have hs8 := hJ8.size
          have GM := Lib.hid (show G.length ≤ 101 by omega)
          clear ho8 hb8 hJ8 hcg x0 hgb
          go_wp2_with fail
          go_loopw [10, 11, 12] (fun vb vr vk wi => ∃ m : Nat, m ≤ G.length ∧ vb = .int .i64 ((G.take m).foldl (pickT up) (-1, 0)).1 ∧ vr = .int .i64 ((G.take m).foldl (pickT up) (-1, 0)).2 ∧ vk = .int .i64 m ∧ Below w9.heap.size w9 wi) (fun _ _ vk _ => G.length - (intOf vk).toNat)
          case atStart => exact ⟨0, Nat.zero_le _, rfl, rfl, rfl, Below.refl _ _⟩
          case round =>
            obtain ⟨m, hm, rfl, rfl, rfl, hb⟩ := hrel
            have HBw := Lib.hid hb
            have hws9 := hb.size
            have hsb := pick_all (size := up) GB2.out m
            obtain ⟨s, hs⟩ : ∃ s, s = (G.take m).foldl (pickT up) (-1, 0) := ⟨_, rfl⟩
            rw [← hs] at hsb
            rw [← hs]
            have HS := Lib.hid hs
            clear hs hb
            by_cases hltm : m < G.length
            · obtain ⟨⟨e, t⟩, hx⟩ : ∃ x, G[m]? = some x := ⟨_, List.getElem?_eq_getElem hltm⟩
              have gb := GB2.out _ (List.mem_of_getElem? hx)
              have c0 := (HBw.out.cell (p := ⟨g2, m * 2, none⟩) hgl).trans (C8.out m _ hx).1
              have c1 := (HBw.out.cell (p := ⟨g2, m * 2 + 1, none⟩) hgl).trans (C8.out m _ hx).2
              have NX := fold_nextP (f := pickT up) (z := (-1, 0)) hx
              rw [← HS.out] at NX
              have g2r : g2 < wr.heap.size := by omega
              obtain ⟨B, R⟩ := s
              obtain ⟨p1, p2, p3⟩ := hsb
              simp only at p1 p2 p3 gb c0 c1 ⊢
              have PT : pickT up (B, R) (e, t) = if t < 0 ∨ t - e < up then (B, R) else if B < 0 ∨ t - e < R ∨ (t - e = R ∧ e < B) then (e, t - e) else (B, R) := rfl
              rw [PT] at NX
              have m0 : (0 : Int) ≤ (m : Int) := by omega
              have mn : (m : Int) < (G.length : Int) := by omega
              clear PT hx
              obtain ⟨d, hd⟩ : ∃ d, d = t - e := ⟨_, rfl⟩
              rw [← hd] at NX
              have dd : t - e = d := hd.symm
              have dw : IntKind.i64.wrap d = d := IntWalk.i64_in _ (by omega)
              clear hd
              by_cases h1 : t < 0
              · rw [if_pos (.inl h1)] at NX
                have NX := Lib.hid NX
                have t1 : decide (t < 0) = true := by simpa using h1
                clear h1
                go_wp2_with fail
                go_quiet (fail)
                go_wp2_with fail
                refine ⟨⟨m + 1, by omega, by rw [NX.out], by rw [NX.out], by simp, by first | exact below_dN HBw.out () | exact below_dN (below_dN HBw.out ()) ()⟩, by simp [intOf]; omega⟩
              · have t1 : decide (t < 0) = false := by simpa using h1
                by_cases h2 : d < up
                · rw [if_pos (.inr h2)] at NX
                  have NX := Lib.hid NX
                  have t2 : decide (d < up) = true := by simpa using h2
                  clear h1 h2
                  go_wp2_with fail
                  go_quiet (fail)
                  go_wp2_with fail
                  refine ⟨⟨m + 1, by omega, by rw [NX.out], by rw [NX.out], by simp, by first | exact below_dN HBw.out () | exact below_dN (below_dN HBw.out ()) ()⟩, by simp [intOf]; omega⟩
                · rw [if_neg (by omega)] at NX
                  have t2 : decide (d < up) = false := by simpa using h2
                  clear h1 h2
                  by_cases h3 : B < 0
                  · rw [if_pos (.inl h3)] at NX
                    have NX := Lib.hid NX
                    have t3 : decide (B < 0) = true := by simpa using h3
                    clear h3
                    go_wp2_with fail
                    go_quiet (fail)
                    go_wp2_with fail
                    go_quiet (fail)
                    go_wp2_with fail
                    refine ⟨⟨m + 1, by omega, by rw [NX.out], by rw [NX.out], by simp, by first | exact below_dN HBw.out () | exact below_dN (below_dN HBw.out ()) ()⟩, by simp [intOf]; omega⟩
                  · have t3 : decide (B < 0) = false := by simpa using h3
                    by_cases h4 : d < R
                    · rw [if_pos (.inr (.inl h4))] at NX
                      have NX := Lib.hid NX
                      have t4 : decide (d < R) = true := by simpa using h4
                      clear h3 h4
                      go_wp2_with fail
                      go_quiet (fail)
                      go_wp2_with fail
                      go_quiet (fail)
                      go_wp2_with fail
                      refine ⟨⟨m + 1, by omega, by rw [NX.out], by rw [NX.out], by simp, by first | exact below_dN HBw.out () | exact below_dN (below_dN HBw.out ()) ()⟩, by simp [intOf]; omega⟩
                    · have t4 : decide (d < R) = false := by simpa using h4
                      by_cases h5 : d = R
                      · have t5 : (d == R) = true := by simpa using h5
                        by_cases h6 : e < B
                        · rw [if_pos (.inr (.inr ⟨h5, h6⟩))] at NX
                          have NX := Lib.hid NX
                          have t6 : decide (e < B) = true := by simpa using h6
                          clear h3 h4 h5 h6
                          go_wp2_with fail
                          go_quiet (fail)
                          go_wp2_with fail
                          go_quiet (fail)
                          go_wp2_with fail
                          refine ⟨⟨m + 1, by omega, by rw [NX.out], by rw [NX.out], by simp, by first | exact below_dN HBw.out () | exact below_dN (below_dN HBw.out ()) ()⟩, by simp [intOf]; omega⟩
                        · rw [if_neg (by omega)] at NX
                          have NX := Lib.hid NX
                          have t6 : decide (e < B) = false := by simpa using h6
                          clear h3 h4 h5 h6
                          go_wp2_with fail
                          go_quiet (fail)
                          go_wp2_with fail
                          go_quiet (fail)
                          go_wp2_with fail
                          refine ⟨⟨m + 1, by omega, by rw [NX.out], by rw [NX.out], by simp, by first | exact below_dN HBw.out () | exact below_dN (below_dN HBw.out ()) ()⟩, by simp [intOf]; omega⟩
                      · rw [if_neg (by omega)] at NX
                        have NX := Lib.hid NX
                        have t5 : (d == R) = false := by simpa using h5
                        clear h3 h4 h5
                        go_wp2_with fail
                        go_quiet (fail)
                        go_wp2_with fail
                        go_quiet (fail)
                        go_wp2_with fail
                        refine ⟨⟨m + 1, by omega, by rw [NX.out], by rw [NX.out], by simp, by first | exact below_dN HBw.out () | exact below_dN (below_dN HBw.out ()) ()⟩, by simp [intOf]; omega⟩
            · have hm2 : m = G.length := by omega
              have em : G.take m = G := by rw [hm2, List.take_of_length_le (Nat.le_refl _)]
              have eP : pickR up G = pickE (G.drop 0) s.1 := by rw [HS.out, em]; rfl
              have hs1 := hsb.1
              obtain ⟨B, R⟩ := s
              simp only at eP hs1 ⊢
              obtain ⟨P, hP⟩ : ∃ P, P = pickR up G := ⟨_, rfl⟩
              rw [← hP] at hpb HST eP
              have EP := Lib.hid eP
              have HB9 := Lib.hid (B8.out.trans (HBw.out.mono hs8))
              clear hP eP em hsb
              go_wp2_with fail
              obtain ⟨w10, hw10⟩ : ∃ w10 : World, w10 = wr := ⟨_, rfl⟩
              rw [← hw10] at HB9 HBw hws9 ⊢
              clear hw10
              go_loopw [10, 14] (fun vb vk wi => ∃ (m : Nat) (bb : Int), m ≤ G.length ∧ vb = .int .i64 bb ∧ vk = .int .i64 m ∧ P = pickE (G.drop m) bb ∧ (bb = -1 ∨ (0 ≤ bb ∧ bb ≤ 1002000000)) ∧ wi = w10) (fun _ vk _ => G.length - (intOf vk).toNat)
              case atStart => exact ⟨0, B, Nat.zero_le _, rfl, rfl, EP.out, hs1, rfl⟩
              case round =>
                clear hm hm2 hltm hs1 EP HS
                obtain ⟨m, bb, hm, rfl, rfl, hE, hbb2, rfl⟩ := hrel
                have EQE := Lib.hid hE
                clear hE
                by_cases hltm : m < G.length
                · by_cases hneg : bb < 0
                  · obtain ⟨⟨e, t⟩, hx⟩ : ∃ x, G[m]? = some x := ⟨_, List.getElem?_eq_getElem hltm⟩
                    have gb := GB2.out _ (List.mem_of_getElem? hx)
                    have c0 := (HBw.out.cell (p := ⟨g2, m * 2, none⟩) hgl).trans (C8.out m _ hx).1
                    have c1 := (HBw.out.cell (p := ⟨g2, m * 2 + 1, none⟩) hgl).trans (C8.out m _ hx).2
                    have PN := pickE_next hx hneg
                    have g2r : g2 < wr.heap.size := by omega
                    simp only at gb c0 c1 PN
                    have m0 : (0 : Int) ≤ (m : Int) := by omega
                    have mn : (m : Int) < (G.length : Int) := by omega
                    have t0 : decide (bb < 0) = true := by simpa using hneg
                    by_cases h1 : t < 0
                    · rw [if_pos h1] at PN
                      have PN := Lib.hid PN
                      have t1 : decide (t < 0) = true := by simpa using h1
                      clear h1 hx hneg
                      go_wp2_with fail
                      exact ⟨⟨m + 1, e, by omega, rfl, by simp, EQE.out.trans PN.out, .inr ⟨gb.1, gb.2.1⟩, trivial⟩, by simp [intOf]; omega⟩
                    · rw [if_neg h1] at PN
                      have PN := Lib.hid PN
                      have t1 : decide (t < 0) = false := by simpa using h1
                      clear h1 hx hneg
                      go_wp2_with fail
                      exact ⟨⟨m + 1, bb, by omega, rfl, by simp, EQE.out.trans PN.out, hbb2, trivial⟩, by simp [intOf]; omega⟩
                  · have t0 : decide (bb < 0) = false := by simpa using hneg
                    have eb : bb = P := by rw [EQE.out, pickE_keep _ (by omega)]
                    subst eb
                    have R9 := srow_later HR.out HB9.out
                    obtain ⟨cc, ff, gw9⟩ := R9.at (k := nx) hnxn
                    have KEY := Lib.hid (R9.set nx bb)
                    have HBA := Lib.hid (HB.out.trans (HB9.out.mono hws2))
                    have hsA := HBA.out.size
                    have VG := Lib.hid ((R9.2.lt g rfl).1)
                    have BS := Lib.hid (HBA.out.grown KEY.out.2 hsA (fun k hk => by cases hk; exact VG.out))
                    obtain ⟨z, hz⟩ : ∃ z, z = bb + up := ⟨_, rfl⟩
                    have hst3 := HST.out
                    rw [← hz] at hst3
                    have e1 : bb + up = z := hz.symm
                    have e2 : IntKind.i64.wrap z = z := IntWalk.i64_in _ (by omega)
                    clear R9 hz
                    by_cases hmx : tot < z
                    · rw [Int.max_eq_right (by omega)] at hst3
                      have HS3 := Lib.hid hst3
                      have tm : decide (tot < z) = true := by simpa using hmx
                      clear hst3 hmx
                      go_wp2_with fail
                      refine (NX.out _ BS.out g cg _ (srow_nat KEY.out.1)).mono ?_
                      rintro e w2 ⟨rfl, hb2⟩
                      have R11 := Lib.hid (srow_later KEY.out.1 hb2)
                      have B11 := Lib.hid (BS.out.trans (hb2.mono (by simp; omega)))
                      clear hb2
                      go_wp2_with fail
                      go_roundg (gk - 1)
                      case measure => have := KN.out; omega
                      case rel => exact ⟨k + 1, A.set nx bb, z, by have := KN.out; omega, rfl, rfl, HS3.out, R11.out, B11.out⟩
                    · rw [Int.max_eq_left (by omega)] at hst3
                      have HS3 := Lib.hid hst3
                      have tm : decide (tot < z) = false := by simpa using hmx
                      clear hst3 hmx
                      go_wp2_with fail
                      refine (NX.out _ BS.out g cg _ (srow_nat KEY.out.1)).mono ?_
                      rintro e w2 ⟨rfl, hb2⟩
                      have R11 := Lib.hid (srow_later KEY.out.1 hb2)
                      have B11 := Lib.hid (BS.out.trans (hb2.mono (by simp; omega)))
                      clear hb2
                      go_wp2_with fail
                      go_roundg (gk - 1)
                      case measure => have := KN.out; omega
                      case rel => exact ⟨k + 1, A.set nx bb, tot, by have := KN.out; omega, rfl, rfl, HS3.out, R11.out, B11.out⟩
                · have eb : bb = P := by rw [EQE.out, pickE_stop (by omega)]
                  subst eb
                  have R9 := srow_later HR.out HB9.out
                  obtain ⟨cc, ff, gw9⟩ := R9.at (k := nx) hnxn
                  have KEY := Lib.hid (R9.set nx bb)
                  have HBA := Lib.hid (HB.out.trans (HB9.out.mono hws2))
                  have hsA := HBA.out.size
                  have VG := Lib.hid ((R9.2.lt g rfl).1)
                  have BS := Lib.hid (HBA.out.grown KEY.out.2 hsA (fun k hk => by cases hk; exact VG.out))
                  obtain ⟨z, hz⟩ : ∃ z, z = bb + up := ⟨_, rfl⟩
                  have hst3 := HST.out
                  rw [← hz] at hst3
                  have e1 : bb + up = z := hz.symm
                  have e2 : IntKind.i64.wrap z = z := IntWalk.i64_in _ (by omega)
                  clear R9 hz
                  by_cases hmx : tot < z
                  · rw [Int.max_eq_right (by omega)] at hst3
                    have HS3 := Lib.hid hst3
                    have tm : decide (tot < z) = true := by simpa using hmx
                    clear hst3 hmx
                    go_wp2_with fail
                    refine (NX.out _ BS.out g cg _ (srow_nat KEY.out.1)).mono ?_
                    rintro e w2 ⟨rfl, hb2⟩
                    have R11 := Lib.hid (srow_later KEY.out.1 hb2)
                    have B11 := Lib.hid (BS.out.trans (hb2.mono (by simp; omega)))
                    clear hb2
                    go_wp2_with fail
                    go_roundg (gk - 1)
                    case measure => have := KN.out; omega
                    case rel => exact ⟨k + 1, A.set nx bb, z, by have := KN.out; omega, rfl, rfl, HS3.out, R11.out, B11.out⟩
                  · rw [Int.max_eq_left (by omega)] at hst3
                    have HS3 := Lib.hid hst3
                    have tm : decide (tot < z) = false := by simpa using hmx
                    clear hst3 hmx
                    go_wp2_with fail
                    refine (NX.out _ BS.out g cg _ (srow_nat KEY.out.1)).mono ?_
                    rintro e w2 ⟨rfl, hb2⟩
                    have R11 := Lib.hid (srow_later KEY.out.1 hb2)
                    have B11 := Lib.hid (BS.out.trans (hb2.mono (by simp; omega)))
                    clear hb2
                    go_wp2_with fail
                    go_roundg (gk - 1)
                    case measure => have := KN.out; omega
                    case rel => exact ⟨k + 1, A.set nx bb, tot, by have := KN.out; omega, rfl, rfl, HS3.out, R11.out, B11.out⟩
        · have hk2 : k = n := by omega
          have tk : (orderC l).take k = orderC l := by rw [hk2, List.take_of_length_le (by rw [order_len, ← HN.out]; omega)]
          rw [tk] at hBo
          have hBo : Both l (orderC l) (fitP l) (A, tot) := hBo
          obtain ⟨eA, et⟩ := both_end hBo
          have ed := both_done hBo
          simp only at eA et ed
          rw [ed]
          subst eA
          subst et
          have hn3 := HN.out
          clear hBo tk hk2 ed
          go_wp2_with fail
          go_ret2
          subst hn3
          exact ⟨g, cg, rfl, HR.out, HB.out⟩
end Go.Proofs.Ytmmhoemddfncmaa
