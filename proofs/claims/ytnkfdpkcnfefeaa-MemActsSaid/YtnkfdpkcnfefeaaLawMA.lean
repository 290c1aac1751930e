/- The statement of layer 5 on acts in any order: it returns true for all inputs. -/
import Derived.Test.YtnkfdpkcnfefeaaRows
import Derived.Test.YtnkfdpkcnfefeaaMemZ
import Derived.Test.YtnkfdpkcnfefeaaMemB
import Derived.Test.YtnkfdpkcnfefeaaOpen
namespace Go.Proofs.Ytnkfdpkcnfefeaa
open Go Go.RowKit Go.ChangeShapes Go.WideShapes Go.ChangeAt
set_option linter.unusedVariables false

theorem acts_here {H : Type} {enc : TypeId × Value → H} {w : World} {r : Reach} {b base : Nat} {spare : Nat → Bool} {held : Bool} {v : Value} {d : DataW H} {p : List MemPlace}
    (hv : Value.okWide Try.prog w r b 40 v) (h : DataW.Trod enc Try.prog w base spare held 40 v d p) :
    ∃ (a : Option Addr) (c : Nat) (l : List ActQ), v = .slice a l.length c ∧ ActsIn w a l c := by
  refine acts_in Try.underlying40 Try.underlying45 (by kernel_rfl) (by rfl) (by kernel_rfl) ?_ ?_ hv h
  · intro j f hj hf
    match j, hj, hf with
    | 0, _, hf => simp at hf; subst hf; exact Try.underlying3
    | 1, _, hf => simp at hf; subst hf; exact Try.underlying3
    | 2, _, hf => simp at hf; subst hf; exact Try.underlying22
    | 3, _, hf => simp at hf; subst hf; exact Try.underlying22
  · intro f hf
    simp at hf
    subst hf
    exact ⟨_, Try.underlying43, Try.underlying5, by kernel_rfl⟩
theorem made_noughtsA (n : Nat) : madeCells #[Value.int .u8 0] n = rowG (noughts n) := by
  apply Array.ext'
  apply List.ext_getElem?
  intro i
  simp only [madeCells, rowG, noughts, Array.toList_map, Array.toList_range, List.getElem?_map, List.map_replicate]
  by_cases h : i < n
  · rw [List.getElem?_range h, List.getElem?_replicate, if_pos h]
    have e : i % 1 = 0 := Nat.mod_one i
    simp [u8G, e]
  · rw [List.getElem?_eq_none (by simp; omega), List.getElem?_eq_none (by simp; omega)]; rfl
theorem two_new {w3 w4 : World} {M F R f n1 r n2 : Nat} (hM : w3.heap[M]? = some (.cells #[.int .u32 (f : Nat), .int .u32 (n1 : Nat), .int .u32 (r : Nat), .int .u32 (n2 : Nat), .slice (some ⟨F, 0, none⟩) n1 n1, .slice (some ⟨R, 0, none⟩) n2 n2] 49 (0, 0)))
    (hF : w3.heap[F]? = some (.cells (madeCells #[.int .u8 0] n1) 5 (0, 0))) (hR : w3.heap[R]? = some (.cells (madeCells #[.int .u8 0] n2) 5 (0, 0))) (hne : F ≠ R ∧ M ≠ F ∧ M ≠ R) (hb : Below w3.heap.size w3 w4) :
    Two M F R w4.heap.size (w4.heap.size + 1) f r (noughts n1) (noughts n2) [] (.slice none 0 0) (w4.alloc (.cells #[.int .u32 (f : Nat), .int .u32 (n1 : Nat), .int .u32 (r : Nat), .int .u32 (n2 : Nat), .slice none 0 0] 34)) ∧ Agree f r (noughts n1) (noughts n2) [] := by
  have l1 := noughts_len n1
  have l2 := noughts_len n2
  have zl : ∀ n, ∀ x ∈ noughts n, x < 256 := fun n x hx => by rw [List.eq_of_mem_replicate hx]; omega
  rw [made_noughtsA] at hF hR
  have cM : ∀ j v, (#[.int .u32 (f : Nat), .int .u32 (n1 : Nat), .int .u32 (r : Nat), .int .u32 (n2 : Nat), .slice (some ⟨F, 0, none⟩) n1 n1, .slice (some ⟨R, 0, none⟩) n2 n2] : Array Value)[j]? = some v → w3.cell? ⟨M, j, none⟩ = some v := fun j v hv => by rw [cell_of_row w3 M j _ _ _ hM]; exact hv
  have h3 : MemIs M F R f r (noughts n1) (noughts n2) w3 := { c0 := cM 0 _ rfl, c2 := cM 2 _ rfl, c4 := by rw [l1]; exact cM 4 _ rfl, c5 := by rw [l2]; exact cM 5 _ rfl, hF := hF, hR := hR, fF := zl n1, fR := zl n2, mF := hne.2.1, mR := hne.2.2, fr := hne.1 }
  have hbl : ∀ o1, Below w3.heap.size w3 (w4.alloc o1) := fun o1 => hb.alloc hb.size _
  have hX : ∀ o1, (w4.alloc o1).heap[w4.heap.size]? = some o1 := fun o1 => heap_alloc_new _ _
  have cX : ∀ j v, (#[.int .u32 (f : Nat), .int .u32 (n1 : Nat), .int .u32 (r : Nat), .int .u32 (n2 : Nat), .slice none 0 0] : Array Value)[j]? = some v → (w4.alloc (.cells #[.int .u32 (f : Nat), .int .u32 (n1 : Nat), .int .u32 (r : Nat), .int .u32 (n2 : Nat), .slice none 0 0] 34)).cell? ⟨w4.heap.size, j, none⟩ = some v := fun j v hv => by
    rw [cell_of_row _ _ j _ _ _ (hX _)]; exact hv
  refine ⟨⟨h3.out (Out.of_below (fun _ => False) (hbl _)) id id id, { c0 := cX 0 _ rfl, c1 := by rw [l1]; exact cX 1 _ rfl, c2 := cX 2 _ rfl, c3 := by rw [l2]; exact cX 3 _ rfl, c4 := cX 4 _ rfl, fz := ?_, own := World.ownsRow_nil _ _ _ _, ok := (fun x hx => by simp at hx), hx := (fun e => by cases e), lt := by simp, bs := by simp, small := by simp }⟩, ?_⟩
  · unfold World.frozen?; rw [hX]; rfl
  · constructor
    · intro i hi
      simp only [atL, noughts, List.getD, List.getElem?_replicate, List.foldl_nil]; split <;> rfl
    · intro i hi
      simp only [atL, noughts, List.getD, List.getElem?_replicate, List.foldl_nil]; split <;> rfl
/-- what stands throughout the loop -/
structure Goes (w : World) (M F R X : Nat) (cnt : Nat) (wr : World) : Prop where
  two : ∃ Fb Rb L v, Two M F R X (X + 1) 4096 2147483648 Fb Rb L v wr ∧ Agree 4096 2147483648 Fb Rb L ∧ Fb.length = 256 ∧ Rb.length = 128 ∧ L.length ≤ cnt
  m : wr.heap[M]? = some (.cells #[.int .u32 4096, .int .u32 256, .int .u32 2147483648, .int .u32 128, .slice (some ⟨F, 0, none⟩) 256 256, .slice (some ⟨R, 0, none⟩) 128 128] 49 (0, 0))
  b : Below w.heap.size w wr
theorem banks_map : Banks 4096 256 2147483648 128 := ⟨by omega, by omega, by omega, by omega, by omega⟩
theorem Goes.step {w : World} {M F R X cnt : Nat} {wr : World} (h : Goes w M F R X cnt wr) (hc : cnt + 40 ≤ 1000000) (hap : Apart M F R X (X + 1)) (mf : M ≠ F) (mr : M ≠ R) (q : ActQ) (hq : q.ok w) (lF : w.heap.size ≤ F) (lR : w.heap.size ≤ R) (lX : w.heap.size ≤ X) :
    Calls Try.prog 13 #[.pointer (some ⟨M, 0, none⟩), .pointer (some ⟨X, 0, none⟩), .agg #[.int .i64 q.k, .int .i64 q.s, .int .u32 q.a, .int .u32 q.u, .slice q.x q.bs.length q.c]] wr fun e w' => e = .returned (.bool true) ∧ Goes w M F R X (cnt + 40) w' := by
  obtain ⟨Fb, Rb, L, v, h1, h2, h3, h4, h5⟩ := h.two
  refine (does_any h1 (by rw [h3, h4]; exact banks_map) h2 (by omega) hap q hq h.b lF lR lX).mono ?_
  rintro e w' ⟨he, Fb', Rb', L', v', k1, k2, k3, k4, k5, k6⟩
  refine ⟨he, ⟨Fb', Rb', L', v', k1, k2, by rw [k3, h3], by rw [k4, h4], by omega⟩, ?_, ?_⟩
  · rw [k6.block M (Array.getElem?_eq_some_iff.1 h.m).1]
    · exact h.m
    · rintro (e | e | e | e)
      · exact mf e
      · exact mr e
      · exact hap.xm e.symm
      · have := hap.m; omega
  · exact k6.below h.b (Nat.le_refl _) fun j hj => by
      rcases hj with e | e | e | e <;> omega
set_option maxHeartbeats 400000 in
theorem target_map (M : Nat) (w : World) (h0 : w.cell? ⟨M, 0, none⟩ = some (.int .u32 4096)) (h1 : w.cell? ⟨M, 1, none⟩ = some (.int .u32 256)) (h2 : w.cell? ⟨M, 2, none⟩ = some (.int .u32 2147483648)) (h3 : w.cell? ⟨M, 3, none⟩ = some (.int .u32 128)) (hM : M < w.heap.size) :
    Calls Try.prog 14 #[.pointer (some ⟨M, 0, none⟩)] w fun e w' => e = .returned (.agg #[.int .u32 4096, .int .u32 256, .int .u32 2147483648, .int .u32 128]) ∧ Below w.heap.size w w' := by
  go_enter Try.func14, Try.ntmps14
  go_wp2
  exact bodyPost_ret (v := .agg #[.int .u32 4096, .int .u32 256, .int .u32 2147483648, .int .u32 128]) (by simp [results, Try.results14, go_sem]) rfl ⟨rfl, by go_grown⟩
set_option maxRecDepth 100000 in
set_option maxHeartbeats 2000000 in
theorem walk_MemActs (w : World) (a0 : Option Addr) (c0 : Nat) (l0 : List ActQ) (w0 : ActsIn w a0 l0 c0) :
    Calls Try.prog 4 #[.slice a0 l0.length c0] w fun e w' => e = .returned (.bool true) ∧ Below w.heap.size w w' := by
  have hlc := w0.1
  have hcc := w0.2.1
  have OKS := Lib.hid w0.2.2.1
  have CEL := Lib.hid w0.2.2.2
  clear w0
  go_enter Try.func4, Try.ntmps4
  go_wp2_with fail
  refine (map_any w).mono ?_
  rintro e w1 ⟨rfl, b1⟩
  have B1 := Lib.hid b1
  clear b1
  go_wp2_with fail
  refine (new_live w1).mono ?_
  rintro e w3 ⟨M, F, R, rfl, hM, hF, hR, m1, m2, m3, hFR, hMF, hMR, l1, l2, l3, b3⟩
  have HM := Lib.hid hM
  have HF := Lib.hid hF
  have HR := Lib.hid hR
  have HNE := Lib.hid (show F ≠ R ∧ M ≠ F ∧ M ≠ R from ⟨hFR, hMF, hMR⟩)
  have B3 := Lib.hid (B1.out.trans (b3.mono B1.out.size))
  have q1 : w.heap.size ≤ M := Nat.le_trans B1.out.size m1
  have q2 : w.heap.size ≤ F := Nat.le_trans B1.out.size m2
  have q3 : w.heap.size ≤ R := Nat.le_trans B1.out.size m3
  clear hM hF hR hFR hMF hMR b3 m1 m2 m3
  go_wp2_with fail
  refine (map_any w3).mono ?_
  rintro e w4 ⟨rfl, b4⟩
  have HB4 := Lib.hid b4
  have hz4 := b4.size
  clear b4
  go_wp2_with fail
  have GO := Lib.hid (show Goes w M F R w4.heap.size (40 * 0) (w4.alloc (.cells #[.int .u32 4096, .int .u32 256, .int .u32 2147483648, .int .u32 128, .slice none 0 0] 34)) by
    obtain ⟨t1, t2⟩ := two_new (f := 4096) (n1 := 256) (r := 2147483648) (n2 := 128) HM.out HF.out HR.out HNE.out HB4.out
    exact { two := ⟨_, _, _, _, t1, t2, noughts_len _, noughts_len _, by simp⟩
            m := (heap_alloc_old _ _ (by omega)).trans ((HB4.out.block M l1).trans HM.out)
            b := (B3.out.trans (HB4.out.mono B3.out.size)).alloc (Nat.le_trans B3.out.size hz4) _ })
  have AP := Lib.hid (show Apart M F R w4.heap.size (w4.heap.size + 1) from ⟨by omega, by omega, by omega, by omega, by omega, by omega⟩)
  have lX : w.heap.size ≤ w4.heap.size := by omega
  generalize hWW : World.alloc _ _ = W0 at *
  generalize w4.heap.size = X at *
  clear HM HF HR HB4 B3 B1 hWW hz4 l1 l2 l3
  go_loopw [6] (fun i wr => ∃ m : Nat, m ≤ l0.length ∧ m ≤ 40 ∧ i = .int .i64 m ∧ Goes w M F R X (40 * m) wr) (fun i _ => l0.length - (intOf i).toNat)
  case atStart => exact ⟨0, by omega, by omega, rfl, GO.out⟩
  case round =>
    obtain ⟨m, hm, hm40, rfl, hG⟩ := hrel
    have HG := Lib.hid hG
    clear hG GO
    have fin : True := trivial
    by_cases hlt : m < l0.length
    · by_cases h40 : m < 40
      · obtain ⟨q, hq⟩ : ∃ q, l0[m]? = some q := ⟨l0[m], List.getElem?_eq_getElem hlt⟩
        have hqo := OKS.out q (List.mem_of_getElem? hq)
        obtain ⟨b, off, rfl, hbw, hcell⟩ : ∃ b off, a0 = some ⟨b, off, none⟩ ∧ b < w.heap.size ∧ ∀ j u, q.cells[j]? = some u → w.cell? ⟨b, off + (m * 5 + j), none⟩ = some u := by
          rcases CEL.out with h | ⟨b, off, h1, h2, h3⟩
          · subst h; simp at hlt
          · exact ⟨b, off, h1, h2, fun j u hj => h3 m q hq j u hj⟩
        have cl : ∀ j u, q.cells[j]? = some u → wr.cell? ⟨b, off + (m * 5 + j), none⟩ = some u := fun j u hj => (HG.out.b.cell (p := ⟨b, off + (m * 5 + j), none⟩) hbw).trans (hcell j u hj)
        have ST := Lib.hid (HG.out.step (by omega) AP.out HNE.out.2.1 HNE.out.2.2 q hqo q2 q3 lX)
        have d0 : wr.cell? ⟨b, off + m * 5, none⟩ = some (.int .i64 q.k) := cl 0 _ rfl
        have d1 : wr.cell? ⟨b, off + m * 5 + 1, none⟩ = some (.int .i64 q.s) := cl 1 _ rfl
        have d2 : wr.cell? ⟨b, off + m * 5 + 2, none⟩ = some (.int .u32 q.a) := cl 2 _ rfl
        have d3 : wr.cell? ⟨b, off + m * 5 + 3, none⟩ = some (.int .u32 q.u) := cl 3 _ rfl
        have d4 : wr.cell? ⟨b, off + m * 5 + 4, none⟩ = some (.slice q.x q.bs.length q.c) := cl 4 _ rfl
        obtain ⟨k, s, a, u, x, c, bs⟩ := q
        simp only at d0 d1 d2 d3 d4
        clear cl hcell hqo hq CEL OKS HG
        go_wp2_with fail
        refine ST.out.mono ?_
        rintro e w5 ⟨rfl, g5⟩
        have G5 := Lib.hid g5
        clear g5 ST d0 d1 d2 d3 d4
        go_wp2_with fail
        go_roundw
        case rel => exact ⟨m + 1, by omega, by omega, by go_num, by have := G5.out; rwa [show 40 * m + 40 = 40 * (m + 1) by omega] at this⟩
        case measure => first | (simp [intOf]; done) | (simp [intOf]; omega)
      · have t3 : decide ((m : Int) < 40) = false := by simp; omega
        clear CEL OKS h40
        go_wp2_with fail
        have cM : ∀ j v, (#[.int .u32 4096, .int .u32 256, .int .u32 2147483648, .int .u32 128, .slice (some ⟨F, 0, none⟩) 256 256, .slice (some ⟨R, 0, none⟩) 128 128] : Array Value)[j]? = some v → wr.cell? ⟨M, j, none⟩ = some v := fun j v hv => by rw [cell_of_row wr M j _ _ _ HG.out.m]; exact hv
        refine (target_map M wr (cM 0 _ rfl) (cM 1 _ rfl) (cM 2 _ rfl) (cM 3 _ rfl) (Array.getElem?_eq_some_iff.1 HG.out.m).1).mono ?_
        rintro e w5 ⟨rfl, b5⟩
        have B5 := Lib.hid (HG.out.b.trans (b5.mono HG.out.b.size))
        clear b5 cM HG
        go_wp2_with fail
        refine (map_any w5).mono ?_
        rintro e w6 ⟨rfl, b6⟩
        have B6 := Lib.hid (B5.out.trans (b6.mono B5.out.size))
        clear b6 B5
        go_wp2_with fail
        refine (law5_lives w6).mono ?_
        rintro e w7 ⟨rfl, b7⟩
        have B7 := Lib.hid (B6.out.trans (b7.mono B6.out.size))
        clear b7 B6
        go_wp2_with fail
        go_ret
        exact ⟨rfl, B7.out⟩
    · obtain rfl : m = l0.length := by omega
      clear CEL OKS hlt
      go_wp2_with fail
      have cM : ∀ j v, (#[.int .u32 4096, .int .u32 256, .int .u32 2147483648, .int .u32 128, .slice (some ⟨F, 0, none⟩) 256 256, .slice (some ⟨R, 0, none⟩) 128 128] : Array Value)[j]? = some v → wr.cell? ⟨M, j, none⟩ = some v := fun j v hv => by rw [cell_of_row wr M j _ _ _ HG.out.m]; exact hv
      refine (target_map M wr (cM 0 _ rfl) (cM 1 _ rfl) (cM 2 _ rfl) (cM 3 _ rfl) (Array.getElem?_eq_some_iff.1 HG.out.m).1).mono ?_
      rintro e w5 ⟨rfl, b5⟩
      have B5 := Lib.hid (HG.out.b.trans (b5.mono HG.out.b.size))
      clear b5 cM HG
      go_wp2_with fail
      refine (map_any w5).mono ?_
      rintro e w6 ⟨rfl, b6⟩
      have B6 := Lib.hid (B5.out.trans (b6.mono B5.out.size))
      clear b6 B5
      go_wp2_with fail
      refine (law5_lives w6).mono ?_
      rintro e w7 ⟨rfl, b7⟩
      have B7 := Lib.hid (B6.out.trans (b7.mono B6.out.size))
      clear b7 B6
      go_wp2_with fail
      go_ret
      exact ⟨rfl, B7.out⟩

theorem own : ownKnob Try.prog.godebug = none := by kernel_rfl
theorem laidOut : laidOutB Try.prog = true := by kernel_rfl
set_option maxRecDepth 100000 in
theorem lifted_MemActs (os : Os) (started : os.Started) (H : Type) (enc : TypeId × Value → H) :
    ReturnsInHanded {} Try.checked os 4 .any (Rows.memActsSpec.pre6 enc Try.prog Try.f4 Rows.memActsRow.domain false) (Rows.memActsSpec.post enc Try.prog Try.f4 false true false false) := by
  refine returnsInHanded_of_change (C := Try.checked) own started (by kernel_rfl) Try.func4
    (ChangeSpec.witness6 (enc := enc) (C := Try.checked) false ⟨#[], #[.slice none 0 0], []⟩ 8 (by kernel_rfl) (by kernel_rfl) (by kernel_rfl) (by kernel_rfl)) ?_
  intro W base args ds gs before hval0 hW hcnd _
  have hval : ∀ (j : Nat) t v, Try.f4.params[j]? = some t → args[j]? = some v → Value.okWide Try.prog W .any base t v := hval0
  have hW' := hW
  obtain ⟨p, q, hA0, hV, rfl, hfz, hnd⟩ := hW
  have hA : DataW.TrodAll enc Try.prog W 0 (fun _ => true) true Try.f4.params.toList args.toList ds p := hA0
  rw [Try.params4] at hA hval
  obtain ⟨v0, vs0, d0, ds0, p0, q0, hargs, rfl, rfl, h0, r0⟩ := trodAll_cons hA
  obtain ⟨rfl, rfl, rfl⟩ := trodAll_nil r0
  obtain rfl : args = #[v0] := by cases args; simp_all
  obtain ⟨rfl, rfl⟩ := trodVars_none hV
  have k0 := h0
  have lt0 : ∀ x ∈ p0, x.block < W.heap.size := by obtain ⟨m, hm⟩ := k0; exact DataW.trod_lt m _ _ _ hm
  obtain ⟨a0, c0, l0, rfl, w0⟩ := acts_here (hval 0 40 v0 rfl rfl) h0
  clear hA0 hval0
  refine (walk_MemActs W a0 c0 l0 w0).mono fun e W' ⟨he, bel⟩ => ?_
  subst he
  exact ⟨_, rfl, _, _, _, [], _, [], hW', trodAll_mk1 (shut_bool Try.underlying4 _), (trodAll_cons_mk (Below.trod laidOut (by kernel_rfl) (of_decide_eq_true (by kernel_rfl)) k0 bel lt0) trodAll_mk0), rfl, bel.frame _, fun h => by cases h⟩

theorem holds_MemActs : Rows.MemActsSaid :=
  OpenClaim.holds_of_wide 4 Try.f4 rfl rfl rfl rfl rfl rfl rfl ⟨rfl, rfl, rfl, rfl, rfl⟩ rfl rfl rfl rfl rfl (by kernel_rfl) Try.func4 (by kernel_rfl)
    (of_decide_eq_true (by kernel_rfl)) (by unfold Func.isWrapper; first | (rw [if_pos (by decide +kernel)]; kernel_rfl) | (rw [if_neg (by decide +kernel)]; exact ⟨rfl, rfl⟩))
    (fun os started H enc _ => lifted_MemActs os started H enc)

end Go.Proofs.Ytnkfdpkcnfefeaa
