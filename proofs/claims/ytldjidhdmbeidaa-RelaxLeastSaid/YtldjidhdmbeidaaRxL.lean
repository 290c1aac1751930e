/- pintlelaw13.nops, lives. -/
import Derived.Test.YtldjidhdmbeidaaRxI
namespace Go.Proofs.Ytldjidhdmbeidaa
open Go Go.RowKit Go.Maps Pl
set_option linter.unusedVariables false
set_option linter.unusedSimpArgs false
set_option maxRecDepth 100000

def lbI : It := ⟨2, 0, 0, 0, 0, 0, 7⟩
def npI : It := ⟨1, 19, 0, 0, 0, 0, 0⟩
def bqI : It := ⟨3, 36, 0, 0, 0, 0, 7⟩
def livL (m : Nat) : List It := lbI :: (List.replicate m npI ++ [bqI])
theorem livL_len (m : Nat) : (livL m).length = m + 2 := by simp [livL]
theorem livL_end (m : Nat) : (livL m)[m + 1]? = some bqI := by simp [livL]
theorem livL_mid {m i : Nat} (h : i < m) : (livL m)[i + 1]? = some npI := by
  simp [livL, List.getElem?_append_left, h]
theorem livL_all {m : Nat} {P : It → Prop} (h1 : P lbI) (h2 : P npI) (h3 : P bqI) : ∀ x ∈ livL m, P x := fun x hx => by
  simp only [livL, List.mem_cons, List.mem_append, List.mem_replicate, List.mem_nil_iff, or_false] at hx
  rcases hx with rfl | ⟨_, rfl⟩ | rfl <;> assumption
theorem livL_lab {m i : Nat} {x : It} (h : (livL m)[i]? = some x) (hk : x.kd = 2) : i = 0 := by
  cases i with
  | zero => rfl
  | succ i =>
    exfalso
    by_cases e : i < m
    · rw [livL_mid e] at h; injection h with h; subst h; exact absurd hk (by decide)
    · by_cases e2 : i = m
      · subst e2; rw [livL_end] at h; injection h with h; subst h; exact absurd hk (by decide)
      · have := (List.getElem?_eq_some_iff.1 h).1
        rw [livL_len] at this
        omega
theorem livL_uniq (m : Nat) : Uniq (livL m) := fun i j x y hx hy h2 h3 _ => by rw [livL_lab hx h2, livL_lab hy h3]
theorem livL_present (m : Nat) : Present (livL m) := fun i x hx hk => by
  refine ⟨0, lbI, rfl, rfl, ?_⟩
  cases i with
  | zero => simp [livL] at hx; subst hx; exact absurd hk (by decide)
  | succ i =>
    by_cases e : i < m
    · rw [livL_mid e] at hx; injection hx with hx; subst hx; exact absurd hk (by decide)
    · by_cases e2 : i = m
      · subst e2; rw [livL_end] at hx; injection hx with hx; subst hx; rfl
      · have := (List.getElem?_eq_some_iff.1 hx).1
        rw [livL_len] at this
        omega
theorem livL_can (m : Nat) : CanAll (livL m) := livL_all (by decide) (by decide) (by decide)
theorem livL_okay (m : Nat) : ∀ x ∈ livL m, x.okay := livL_all (by simp [It.okay, In64, lbI]) (by simp [It.okay, In64, npI]) (by simp [It.okay, In64, bqI])
theorem livL_br {m i : Nat} (h : brL (livL m) i = true) : i = m + 1 := by
  obtain ⟨x, hx, hk⟩ := brL_some h
  cases i with
  | zero => simp [livL] at hx; subst hx; exact absurd hk (by decide)
  | succ i =>
    by_cases e : i < m
    · rw [livL_mid e] at hx; injection hx with hx; subst hx; exact absurd hk (by decide)
    · have := (List.getElem?_eq_some_iff.1 hx).1
      rw [livL_len] at this
      omega
theorem livL_pl {m : Nat} {F : Nat → Bool} (hF : ∀ i, F i = true → i < (livL m).length ∧ brL (livL m) i = true) : ∀ k, k ≤ m → plR (szR (szL (livL m)) F) (k + 1) = 4 * (k : Int) := by
  have hno : ∀ i, i ≤ m → F i = false := fun i hi => by
    cases h : F i with
    | false => rfl
    | true => have := livL_br (hF i h).2; omega
  intro k
  induction k with
  | zero =>
    intro _
    show 0 + szR (szL (livL m)) F 0 = _
    unfold szR
    rw [hno 0 (by omega), szL_at (x := lbI) rfl]; decide
  | succ k ih =>
    intro hk
    show plR _ (k + 1) + szR (szL (livL m)) F (k + 1) = _
    rw [ih (by omega)]
    unfold szR
    rw [hno (k + 1) hk, szL_at (livL_mid (by omega)), show szI npI = 4 by decide]
    simp only [Bool.false_eq_true, if_false]
    omega
theorem livL_to {m : Nat} {tg : Nat → Int} (h : TgOk (livL m) tg) : (rxM (livL m) tg).to (m + 1) = 0 := by
  obtain ⟨t, y, h1, _, h2, h3, _⟩ := h.t (m + 1) bqI (livL_end m) (.inl rfl)
  show (tg (m + 1)).toNat = 0
  rw [h1, livL_lab h2 h3]; rfl
theorem livL_far {m : Nat} {tg : Nat → Int} (h : TgOk (livL m) tg) {F : Nat → Bool} (hc : (rxM (livL m) tg).closed F) (hl : ∀ G, (rxM (livL m) tg).closed G → ∀ i, F i = true → G i = true) (hF : ∀ i, F i = true → i < (livL m).length ∧ brL (livL m) i = true) : F (m + 1) = decide (1024 < m) := by
  by_cases e : 1024 < m
  · rw [show decide (1024 < m) = true by simp [e]]
    cases hf : F (m + 1) with
    | true => rfl
    | false =>
      exfalso
      have := hc (m + 1) (by show m + 1 < (livL m).length; rw [livL_len]; omega) (by show brL (livL m) (m + 1) = true; rw [brL_at (livL_end m)]; rfl) hf
      rw [livL_to h] at this
      unfold nearR RxI.pl at this
      rw [show plR (szR (rxM (livL m) tg).s F) (m + 1) = 4 * (m : Int) from livL_pl hF m (Nat.le_refl m)] at this
      simp [plR] at this
      omega
  · rw [show decide (1024 < m) = false by simp; omega]
    cases hf : F (m + 1) with
    | false => rfl
    | true =>
      have hG : (rxM (livL m) tg).closed (fun _ => false) := fun i hi hb _ => by
        have := livL_br (show brL (livL m) i = true from hb)
        subst this
        rw [livL_to h]
        unfold nearR RxI.pl
        rw [show plR (szR (rxM (livL m) tg).s fun _ => false) (m + 1) = 4 * (m : Int) from livL_pl (fun i h => (Bool.false_ne_true h).elim) m (Nat.le_refl m)]
        simp [plR]
        omega
      have := hl _ hG (m + 1) hf
      cases this
theorem layL_any (m : Nat) (hm : m ≤ 1025) (a : Option Addr) (c : Nat) (w : World) (hA : ItAt w a (livL m)) (hc : c ≤ 9223372036854775807) :
    Calls Try.prog 6 #[.slice a (m + 2) c] w fun e w' => ∃ b bf F, e = .returned (.tuple #[.slice (some ⟨b, 0, none⟩) (m + 3) (m + 3), .slice (some ⟨bf, 0, none⟩) (m + 2) (m + 2), .int .i64 0]) ∧ RowAt w' bf (bR (m + 2) F) ∧ F (m + 1) = decide (1024 < m) ∧ Below w.heap.size w w' := by
  have h := layout_any (livL m) (livL_okay m) a c w hA (by rw [livL_len]; omega) hc
  rw [livL_len] at h
  refine h.mono ?_
  rintro e w' ⟨hb, ⟨b, bf, tg, F, rfl, _, _, h3, h4, h5, h6, h7, h8, h9⟩ | ⟨_, hn⟩⟩
  · rw [livL_len] at h4 ⊢
    exact ⟨b, bf, F, rfl, h4, livL_far h6 h7 h8 h9, hb⟩
  · exact absurd ⟨livL_can m, livL_uniq m, livL_present m⟩ hn
def smL (m : Nat) : List Sm := [⟨0, lbI⟩, ⟨m, npI⟩, ⟨0, bqI⟩]
theorem items_liv {m : Nat} (h1 : 1 ≤ m) (h2 : m ≤ 1025) : itemsL (smL m) = livL m := by
  have t0 : timesOf ⟨0, lbI⟩ = 1 := by decide
  have t2 : timesOf ⟨0, bqI⟩ = 1 := by decide
  have t1 : timesOf ⟨(m : Int), npI⟩ = m := by unfold timesOf; dsimp only; rw [if_neg (by simp [npI]; omega)]
  have e0 : itStep [] ⟨0, lbI⟩ = [lbI] := by unfold itStep; rw [t0]; rfl
  have e1 : itStep [lbI] ⟨(m : Int), npI⟩ = lbI :: List.replicate m npI := by unfold itStep; rw [t1]; simp; omega
  have e2 : itStep (lbI :: List.replicate m npI) ⟨0, bqI⟩ = livL m := by
    unfold itStep; rw [t2, show min (1 : Int).toNat (4000 - (lbI :: List.replicate m npI).length) = 1 by simp; omega]; simp [livL]
  show itStep (itStep (itStep [] _) _) _ = _
  rw [e0, e1, e2]
def smC (m : Nat) : List Value := [.int .i64 0, .int .i64 2, .int .i64 0, .int .i64 0, .int .i64 0, .int .i64 0, .int .i32 0, .int .i64 7, .int .i64 m, .int .i64 1, .int .i64 19, .int .i64 0, .int .i64 0, .int .i64 0, .int .i32 0, .int .i64 0, .int .i64 0, .int .i64 3, .int .i64 36, .int .i64 0, .int .i64 0, .int .i64 0, .int .i32 0, .int .i64 7]
theorem itL_any (m : Nat) (h1 : 1 ≤ m) (hm : m ≤ 1025) (g : Nat) (w : World) (hR : RowAt w g (smC m)) :
    Calls Try.prog 5 #[.slice (some ⟨g, 0, none⟩) 3 3] w fun e w' => ∃ a c', e = .returned (.slice a (m + 2) c') ∧ c' ≤ 9223372036854775807 ∧ ItAt w' a (livL m) ∧ Below w.heap.size w w' := by
  have hS : SmAt w (some ⟨g, 0, none⟩) (smL m) := by
    intro k s hs
    match k, hs with
    | 0, hs => simp [smL] at hs; subst hs; exact ⟨g, 0, rfl, hR.lt, hR.cell 0 _ rfl, hR.cell 1 _ rfl, hR.cell 2 _ rfl, hR.cell 3 _ rfl, hR.cell 4 _ rfl, hR.cell 5 _ rfl, hR.cell 6 _ rfl, hR.cell 7 _ rfl⟩
    | 1, hs => simp [smL] at hs; subst hs; exact ⟨g, 0, rfl, hR.lt, hR.cell 8 _ rfl, hR.cell 9 _ rfl, hR.cell 10 _ rfl, hR.cell 11 _ rfl, hR.cell 12 _ rfl, hR.cell 13 _ rfl, hR.cell 14 _ rfl, hR.cell 15 _ rfl⟩
    | 2, hs => simp [smL] at hs; subst hs; exact ⟨g, 0, rfl, hR.lt, hR.cell 16 _ rfl, hR.cell 17 _ rfl, hR.cell 18 _ rfl, hR.cell 19 _ rfl, hR.cell 20 _ rfl, hR.cell 21 _ rfl, hR.cell 22 _ rfl, hR.cell 23 _ rfl⟩
    | k + 3, hs => simp [smL] at hs
  have h := items_any (smL m) (some ⟨g, 0, none⟩) 3 w hS (by
    intro s hs
    simp only [smL, List.mem_cons, List.mem_nil_iff, or_false] at hs
    rcases hs with rfl | rfl | rfl
    · exact ⟨by simp [In64], by simp [It.okay, In64, lbI]⟩
    · exact ⟨by simp [In64]; omega, by simp [It.okay, In64, npI]⟩
    · exact ⟨by simp [In64], by simp [It.okay, In64, bqI]⟩) (by simp [smL]) (by omega)
  rw [items_liv h1 hm, livL_len] at h
  exact h
theorem nops_any (n : Int) (w : World) : Calls Try.prog 14 #[.int .i64 n] w fun e w' => e = .returned (.agg #[.int .i64 n, .int .i64 1, .int .i64 19, .int .i64 0, .int .i64 0, .int .i64 0, .int .i32 0, .int .i64 0]) ∧ Below w.heap.size w w' := by
  have B0 := Lib.hid (Below.alloc (Below.refl w.heap.size w) (Nat.le_refl _) (.cells #[.int .i64 n, .int .i64 1, .int .i64 19, .int .i64 0, .int .i64 0, .int .i64 0, .int .i32 0, .int .i64 0] 40))
  have R0 := Lib.hid (RowAt.new w [.int .i64 n, .int .i64 1, .int .i64 19, .int .i64 0, .int .i64 0, .int .i64 0, .int .i32 0, .int .i64 0] 40)
  go_enter Try.func14, Try.ntmps14
  go_wp2_with fail
  exact bodyPost_ret (results_cell_mid rfl _ _ w.heap.size _ rfl (load_row R0.out 40 _ Try.underlying40 rfl (by kernel_rfl))) rfl ⟨rfl, B0.out⟩
set_option maxHeartbeats 16000000 in
theorem lives13 (w : World) : Calls Try.prog 7 #[] w fun e w' => e = .returned (.bool true) ∧ Below w.heap.size w w' := by
  obtain ⟨W1, hW1⟩ : ∃ W, W = w.alloc (.cells #[Value.int .i64 0, Value.int .i64 2, Value.int .i64 0, Value.int .i64 0, Value.int .i64 0, Value.int .i64 0, Value.int .i32 0, Value.int .i64 7] 40) := ⟨_, rfl⟩
  obtain ⟨W2, hW2⟩ : ∃ W, W = W1.alloc (.cells #[Value.int .i64 0, Value.int .i64 3, Value.int .i64 36, Value.int .i64 0, Value.int .i64 0, Value.int .i64 0, Value.int .i32 0, Value.int .i64 7] 40) := ⟨_, rfl⟩
  obtain ⟨A1, hA1⟩ : ∃ A, A = w.heap.size := ⟨_, rfl⟩
  obtain ⟨A2, hA2⟩ : ∃ A, A = w.heap.size + 1 := ⟨_, rfl⟩
  have BW := Lib.hid (show Below w.heap.size w W2 by rw [hW2, hW1]; exact Below.alloc (Below.alloc (Below.refl _ _) (Nat.le_refl _) _) (by simp) _)
  have RA2 := Lib.hid (show RowAt W2 A2 [Value.int .i64 0, Value.int .i64 3, Value.int .i64 36, Value.int .i64 0, Value.int .i64 0, Value.int .i64 0, Value.int .i32 0, Value.int .i64 7] by
    have h := RowAt.new W1 [Value.int .i64 0, Value.int .i64 3, Value.int .i64 36, Value.int .i64 0, Value.int .i64 0, Value.int .i64 0, Value.int .i32 0, Value.int .i64 7] 40
    rw [show W1.heap.size = A2 by rw [hW1, hA2]; simp] at h
    rw [hW2]; exact h)
  have RA1 := Lib.hid (show RowAt W2 A1 [Value.int .i64 0, Value.int .i64 2, Value.int .i64 0, Value.int .i64 0, Value.int .i64 0, Value.int .i64 0, Value.int .i32 0, Value.int .i64 7] by
    have h := RowAt.new w [Value.int .i64 0, Value.int .i64 2, Value.int .i64 0, Value.int .i64 0, Value.int .i64 0, Value.int .i64 0, Value.int .i32 0, Value.int .i64 7] 40
    rw [← hA1] at h
    have h2 : RowAt W1 A1 [Value.int .i64 0, Value.int .i64 2, Value.int .i64 0, Value.int .i64 0, Value.int .i64 0, Value.int .i64 0, Value.int .i32 0, Value.int .i64 7] := by rw [hW1]; exact h
    rw [hW2]
    exact h2.over (Below.alloc (Below.refl _ _) (Nat.le_refl _) _))
  go_enter Try.func7, Try.ntmps7
  go_upto_region 2 with fail
  rw [← hW1, ← hW2]
  rw [← hA2]
  rw [← hA1]
  clear hA1 hA2 hW1 hW2
  have PS := Lib.hid (show ∀ W', Below W2.heap.size W2 W' → (fun (w' : World) => w'.cell? ⟨A1, 0, none⟩ = some (.int .i64 0) ∧ w'.cell? ⟨A1, 1, none⟩ = some (.int .i64 2) ∧ w'.cell? ⟨A1, 2, none⟩ = some (.int .i64 0) ∧ w'.cell? ⟨A1, 3, none⟩ = some (.int .i64 0) ∧ w'.cell? ⟨A1, 4, none⟩ = some (.int .i64 0) ∧ w'.cell? ⟨A1, 5, none⟩ = some (.int .i64 0) ∧ w'.cell? ⟨A1, 6, none⟩ = some (.int .i32 0) ∧ w'.cell? ⟨A1, 7, none⟩ = some (.int .i64 7) ∧ w'.cell? ⟨A2, 0, none⟩ = some (.int .i64 0) ∧ w'.cell? ⟨A2, 1, none⟩ = some (.int .i64 3) ∧ w'.cell? ⟨A2, 2, none⟩ = some (.int .i64 36) ∧ w'.cell? ⟨A2, 3, none⟩ = some (.int .i64 0) ∧ w'.cell? ⟨A2, 4, none⟩ = some (.int .i64 0) ∧ w'.cell? ⟨A2, 5, none⟩ = some (.int .i64 0) ∧ w'.cell? ⟨A2, 6, none⟩ = some (.int .i32 0) ∧ w'.cell? ⟨A2, 7, none⟩ = some (.int .i64 7) ∧ Below W2.heap.size W2 w') W' from fun W' h => ⟨(RA1.out.over h).cell 0 _ rfl, (RA1.out.over h).cell 1 _ rfl, (RA1.out.over h).cell 2 _ rfl, (RA1.out.over h).cell 3 _ rfl, (RA1.out.over h).cell 4 _ rfl, (RA1.out.over h).cell 5 _ rfl, (RA1.out.over h).cell 6 _ rfl, (RA1.out.over h).cell 7 _ rfl, (RA2.out.over h).cell 0 _ rfl, (RA2.out.over h).cell 1 _ rfl, (RA2.out.over h).cell 2 _ rfl, (RA2.out.over h).cell 3 _ rfl, (RA2.out.over h).cell 4 _ rfl, (RA2.out.over h).cell 5 _ rfl, (RA2.out.over h).cell 6 _ rfl, (RA2.out.over h).cell 7 _ rfl, h⟩)
  have NPS := Lib.hid (fun W => nops_any 1024 W)
  have ITS := Lib.hid (fun (X : World) => show Calls Try.prog 5 #[.slice (some ⟨X.heap.size, 0, none⟩) 3 3] (X.alloc (.cells #[Value.int .i64 0, Value.int .i64 2, Value.int .i64 0, Value.int .i64 0, Value.int .i64 0, Value.int .i64 0, Value.int .i32 0, Value.int .i64 7, Value.int .i64 1024, Value.int .i64 1, Value.int .i64 19, Value.int .i64 0, Value.int .i64 0, Value.int .i64 0, Value.int .i32 0, Value.int .i64 0, Value.int .i64 0, Value.int .i64 3, Value.int .i64 36, Value.int .i64 0, Value.int .i64 0, Value.int .i64 0, Value.int .i32 0, Value.int .i64 7] 40)) fun e w' => ∃ a c', e = .returned (.slice a 1026 c') ∧ c' ≤ 9223372036854775807 ∧ ItAt w' a (livL 1024) ∧ Below (X.alloc (.cells #[Value.int .i64 0, Value.int .i64 2, Value.int .i64 0, Value.int .i64 0, Value.int .i64 0, Value.int .i64 0, Value.int .i32 0, Value.int .i64 7, Value.int .i64 1024, Value.int .i64 1, Value.int .i64 19, Value.int .i64 0, Value.int .i64 0, Value.int .i64 0, Value.int .i32 0, Value.int .i64 0, Value.int .i64 0, Value.int .i64 3, Value.int .i64 36, Value.int .i64 0, Value.int .i64 0, Value.int .i64 0, Value.int .i32 0, Value.int .i64 7] 40)).heap.size (X.alloc (.cells #[Value.int .i64 0, Value.int .i64 2, Value.int .i64 0, Value.int .i64 0, Value.int .i64 0, Value.int .i64 0, Value.int .i32 0, Value.int .i64 7, Value.int .i64 1024, Value.int .i64 1, Value.int .i64 19, Value.int .i64 0, Value.int .i64 0, Value.int .i64 0, Value.int .i32 0, Value.int .i64 0, Value.int .i64 0, Value.int .i64 3, Value.int .i64 36, Value.int .i64 0, Value.int .i64 0, Value.int .i64 0, Value.int .i32 0, Value.int .i64 7] 40)) w' from itL_any 1024 (by omega) (by omega) X.heap.size (X.alloc (.cells #[Value.int .i64 0, Value.int .i64 2, Value.int .i64 0, Value.int .i64 0, Value.int .i64 0, Value.int .i64 0, Value.int .i32 0, Value.int .i64 7, Value.int .i64 1024, Value.int .i64 1, Value.int .i64 19, Value.int .i64 0, Value.int .i64 0, Value.int .i64 0, Value.int .i32 0, Value.int .i64 0, Value.int .i64 0, Value.int .i64 3, Value.int .i64 36, Value.int .i64 0, Value.int .i64 0, Value.int .i64 0, Value.int .i32 0, Value.int .i64 7] 40)) (RowAt.new X (smC 1024) 40))
  have LYS := Lib.hid (fun (a : Option Addr) (c : Nat) (X : World) (hA : ItAt X a (livL 1024)) (hc : c ≤ 9223372036854775807) => show Calls Try.prog 6 #[.slice a 1026 c] X fun e w' => ∃ b bf F, e = .returned (.tuple #[.slice (some ⟨b, 0, none⟩) 1027 1027, .slice (some ⟨bf, 0, none⟩) 1026 1026, .int .i64 0]) ∧ RowAt w' bf (bR 1026 F) ∧ F 1025 = false ∧ Below X.heap.size X w' from layL_any 1024 (by omega) a c X hA hc)
  go_cut [3, 4, 5] (fun s3 s4 s5 wx => ∃ b bf F, s3 = .slice (some ⟨b, 0, none⟩) 1027 1027 ∧ s4 = .slice (some ⟨bf, 0, none⟩) 1026 1026 ∧ s5 = .int .i64 0 ∧ RowAt wx bf (bR 1026 F) ∧ F 1025 = false ∧ Below W2.heap.size W2 wx)
  case first =>
    obtain ⟨z0, z1, z2, z3, z4, z5, z6, z7, y0, y1, y2, y3, y4, y5, y6, y7, -⟩ := PS.out _ (Below.refl _ _)
    have al1 := RA1.out.lt
    have al2 := RA2.out.lt
    go_region_held3 (fun (w' : World) => w'.cell? ⟨A1, 0, none⟩ = some (.int .i64 0) ∧ w'.cell? ⟨A1, 1, none⟩ = some (.int .i64 2) ∧ w'.cell? ⟨A1, 2, none⟩ = some (.int .i64 0) ∧ w'.cell? ⟨A1, 3, none⟩ = some (.int .i64 0) ∧ w'.cell? ⟨A1, 4, none⟩ = some (.int .i64 0) ∧ w'.cell? ⟨A1, 5, none⟩ = some (.int .i64 0) ∧ w'.cell? ⟨A1, 6, none⟩ = some (.int .i32 0) ∧ w'.cell? ⟨A1, 7, none⟩ = some (.int .i64 7) ∧ w'.cell? ⟨A2, 0, none⟩ = some (.int .i64 0) ∧ w'.cell? ⟨A2, 1, none⟩ = some (.int .i64 3) ∧ w'.cell? ⟨A2, 2, none⟩ = some (.int .i64 36) ∧ w'.cell? ⟨A2, 3, none⟩ = some (.int .i64 0) ∧ w'.cell? ⟨A2, 4, none⟩ = some (.int .i64 0) ∧ w'.cell? ⟨A2, 5, none⟩ = some (.int .i64 0) ∧ w'.cell? ⟨A2, 6, none⟩ = some (.int .i32 0) ∧ w'.cell? ⟨A2, 7, none⟩ = some (.int .i64 7) ∧ Below W2.heap.size W2 w') (first | (with_reducible assumption) | (refine PS.out _ ?_; first | (with_reducible exact Below.refl _ _) | (with_reducible exact (Below.refl _ _).drew) | (with_reducible exact hB5) | (with_reducible exact hB5.drew) | (with_reducible exact hA5) | (with_reducible exact hA5.drew) | (with_reducible exact hB6) | (with_reducible exact hB6.drew) | (with_reducible exact hB7) | (with_reducible exact hB7.drew)))
      (first | (go_at_call 14; (with_reducible refine (NPS.out _).mono ?_); rintro e w5 ⟨rfl, hb5⟩; have hB5 : Below W2.heap.size W2 w5 := (by first | (with_reducible exact hb5) | exact below_call (Below.refl W2.heap.size W2).drew hb5); have hA5 := Below.alloc hB5 hB5.size (.cells #[Value.int .i64 0, Value.int .i64 2, Value.int .i64 0, Value.int .i64 0, Value.int .i64 0, Value.int .i64 0, Value.int .i32 0, Value.int .i64 7, Value.int .i64 1024, Value.int .i64 1, Value.int .i64 19, Value.int .i64 0, Value.int .i64 0, Value.int .i64 0, Value.int .i32 0, Value.int .i64 0, Value.int .i64 0, Value.int .i64 3, Value.int .i64 36, Value.int .i64 0, Value.int .i64 0, Value.int .i64 0, Value.int .i32 0, Value.int .i64 7] 40); clear hb5) | (go_at_call 5; (with_reducible refine (ITS.out _).mono ?_); rintro e w6 ⟨a6, c6, rfl, hc6, hi6, hb6⟩; have hB6 := below_call hA5 hb6; clear hb6) | (go_at_call 6; (with_reducible refine (LYS.out _ _ _ hi6 hc6).mono ?_); rintro e w7 ⟨b, bf, F, rfl, hr, hf, hb7⟩; have hB7 := below_call hB6 hb7; clear hb7))
    all_goals (go_wp2_with fail)
    all_goals go_meet
    all_goals (first | exact ⟨b, bf, F, rfl, rfl, rfl, hr, hf, hB7⟩ | exact ⟨b, bf, F, rfl, rfl, rfl, hr.drew, hf, hB7.drew⟩)
  case rest =>
    obtain ⟨b1, bf1, F1, h3, h4, h5, hr1, hf1, hb1⟩ := hcut
    subst h3 h4 h5
    have RF1 := Lib.hid hr1
    have HF1 := Lib.hid hf1
    have BC1 := Lib.hid (below_call BW.out hb1)
    replace RA1 := Lib.hid (RA1.out.over hb1)
    replace RA2 := Lib.hid (RA2.out.over hb1)
    clear hr1 hf1 hb1 PS NPS ITS LYS BW
    go_upto_region 3 with fail
    have PS := Lib.hid (show ∀ W', Below wc.heap.size wc W' → (fun (w' : World) => w'.cell? ⟨A1, 0, none⟩ = some (.int .i64 0) ∧ w'.cell? ⟨A1, 1, none⟩ = some (.int .i64 2) ∧ w'.cell? ⟨A1, 2, none⟩ = some (.int .i64 0) ∧ w'.cell? ⟨A1, 3, none⟩ = some (.int .i64 0) ∧ w'.cell? ⟨A1, 4, none⟩ = some (.int .i64 0) ∧ w'.cell? ⟨A1, 5, none⟩ = some (.int .i64 0) ∧ w'.cell? ⟨A1, 6, none⟩ = some (.int .i32 0) ∧ w'.cell? ⟨A1, 7, none⟩ = some (.int .i64 7) ∧ w'.cell? ⟨A2, 0, none⟩ = some (.int .i64 0) ∧ w'.cell? ⟨A2, 1, none⟩ = some (.int .i64 3) ∧ w'.cell? ⟨A2, 2, none⟩ = some (.int .i64 36) ∧ w'.cell? ⟨A2, 3, none⟩ = some (.int .i64 0) ∧ w'.cell? ⟨A2, 4, none⟩ = some (.int .i64 0) ∧ w'.cell? ⟨A2, 5, none⟩ = some (.int .i64 0) ∧ w'.cell? ⟨A2, 6, none⟩ = some (.int .i32 0) ∧ w'.cell? ⟨A2, 7, none⟩ = some (.int .i64 7) ∧ Below wc.heap.size wc w') W' from fun W' h => ⟨(RA1.out.over h).cell 0 _ rfl, (RA1.out.over h).cell 1 _ rfl, (RA1.out.over h).cell 2 _ rfl, (RA1.out.over h).cell 3 _ rfl, (RA1.out.over h).cell 4 _ rfl, (RA1.out.over h).cell 5 _ rfl, (RA1.out.over h).cell 6 _ rfl, (RA1.out.over h).cell 7 _ rfl, (RA2.out.over h).cell 0 _ rfl, (RA2.out.over h).cell 1 _ rfl, (RA2.out.over h).cell 2 _ rfl, (RA2.out.over h).cell 3 _ rfl, (RA2.out.over h).cell 4 _ rfl, (RA2.out.over h).cell 5 _ rfl, (RA2.out.over h).cell 6 _ rfl, (RA2.out.over h).cell 7 _ rfl, h⟩)
    have NPS := Lib.hid (fun W => nops_any 1025 W)
    have ITS := Lib.hid (fun (X : World) => show Calls Try.prog 5 #[.slice (some ⟨X.heap.size, 0, none⟩) 3 3] (X.alloc (.cells #[Value.int .i64 0, Value.int .i64 2, Value.int .i64 0, Value.int .i64 0, Value.int .i64 0, Value.int .i64 0, Value.int .i32 0, Value.int .i64 7, Value.int .i64 1025, Value.int .i64 1, Value.int .i64 19, Value.int .i64 0, Value.int .i64 0, Value.int .i64 0, Value.int .i32 0, Value.int .i64 0, Value.int .i64 0, Value.int .i64 3, Value.int .i64 36, Value.int .i64 0, Value.int .i64 0, Value.int .i64 0, Value.int .i32 0, Value.int .i64 7] 40)) fun e w' => ∃ a c', e = .returned (.slice a 1027 c') ∧ c' ≤ 9223372036854775807 ∧ ItAt w' a (livL 1025) ∧ Below (X.alloc (.cells #[Value.int .i64 0, Value.int .i64 2, Value.int .i64 0, Value.int .i64 0, Value.int .i64 0, Value.int .i64 0, Value.int .i32 0, Value.int .i64 7, Value.int .i64 1025, Value.int .i64 1, Value.int .i64 19, Value.int .i64 0, Value.int .i64 0, Value.int .i64 0, Value.int .i32 0, Value.int .i64 0, Value.int .i64 0, Value.int .i64 3, Value.int .i64 36, Value.int .i64 0, Value.int .i64 0, Value.int .i64 0, Value.int .i32 0, Value.int .i64 7] 40)).heap.size (X.alloc (.cells #[Value.int .i64 0, Value.int .i64 2, Value.int .i64 0, Value.int .i64 0, Value.int .i64 0, Value.int .i64 0, Value.int .i32 0, Value.int .i64 7, Value.int .i64 1025, Value.int .i64 1, Value.int .i64 19, Value.int .i64 0, Value.int .i64 0, Value.int .i64 0, Value.int .i32 0, Value.int .i64 0, Value.int .i64 0, Value.int .i64 3, Value.int .i64 36, Value.int .i64 0, Value.int .i64 0, Value.int .i64 0, Value.int .i32 0, Value.int .i64 7] 40)) w' from itL_any 1025 (by omega) (by omega) X.heap.size (X.alloc (.cells #[Value.int .i64 0, Value.int .i64 2, Value.int .i64 0, Value.int .i64 0, Value.int .i64 0, Value.int .i64 0, Value.int .i32 0, Value.int .i64 7, Value.int .i64 1025, Value.int .i64 1, Value.int .i64 19, Value.int .i64 0, Value.int .i64 0, Value.int .i64 0, Value.int .i32 0, Value.int .i64 0, Value.int .i64 0, Value.int .i64 3, Value.int .i64 36, Value.int .i64 0, Value.int .i64 0, Value.int .i64 0, Value.int .i32 0, Value.int .i64 7] 40)) (RowAt.new X (smC 1025) 40))
    have LYS := Lib.hid (fun (a : Option Addr) (c : Nat) (X : World) (hA : ItAt X a (livL 1025)) (hc : c ≤ 9223372036854775807) => show Calls Try.prog 6 #[.slice a 1027 c] X fun e w' => ∃ b bf F, e = .returned (.tuple #[.slice (some ⟨b, 0, none⟩) 1028 1028, .slice (some ⟨bf, 0, none⟩) 1027 1027, .int .i64 0]) ∧ RowAt w' bf (bR 1027 F) ∧ F 1026 = true ∧ Below X.heap.size X w' from layL_any 1025 (by omega) a c X hA hc)
    go_cut [6, 7, 8] (fun s3 s4 s5 wx => ∃ b bf F, s3 = .slice (some ⟨b, 0, none⟩) 1028 1028 ∧ s4 = .slice (some ⟨bf, 0, none⟩) 1027 1027 ∧ s5 = .int .i64 0 ∧ RowAt wx bf (bR 1027 F) ∧ F 1026 = true ∧ Below wc.heap.size wc wx)
    case first =>
      obtain ⟨z0, z1, z2, z3, z4, z5, z6, z7, y0, y1, y2, y3, y4, y5, y6, y7, -⟩ := PS.out _ (Below.refl _ _)
      have al1 := RA1.out.lt
      have al2 := RA2.out.lt
      go_region_held3 (fun (w' : World) => w'.cell? ⟨A1, 0, none⟩ = some (.int .i64 0) ∧ w'.cell? ⟨A1, 1, none⟩ = some (.int .i64 2) ∧ w'.cell? ⟨A1, 2, none⟩ = some (.int .i64 0) ∧ w'.cell? ⟨A1, 3, none⟩ = some (.int .i64 0) ∧ w'.cell? ⟨A1, 4, none⟩ = some (.int .i64 0) ∧ w'.cell? ⟨A1, 5, none⟩ = some (.int .i64 0) ∧ w'.cell? ⟨A1, 6, none⟩ = some (.int .i32 0) ∧ w'.cell? ⟨A1, 7, none⟩ = some (.int .i64 7) ∧ w'.cell? ⟨A2, 0, none⟩ = some (.int .i64 0) ∧ w'.cell? ⟨A2, 1, none⟩ = some (.int .i64 3) ∧ w'.cell? ⟨A2, 2, none⟩ = some (.int .i64 36) ∧ w'.cell? ⟨A2, 3, none⟩ = some (.int .i64 0) ∧ w'.cell? ⟨A2, 4, none⟩ = some (.int .i64 0) ∧ w'.cell? ⟨A2, 5, none⟩ = some (.int .i64 0) ∧ w'.cell? ⟨A2, 6, none⟩ = some (.int .i32 0) ∧ w'.cell? ⟨A2, 7, none⟩ = some (.int .i64 7) ∧ Below wc.heap.size wc w') (first | (with_reducible assumption) | (refine PS.out _ ?_; first | (with_reducible exact Below.refl _ _) | (with_reducible exact (Below.refl _ _).drew) | (with_reducible exact hB5) | (with_reducible exact hB5.drew) | (with_reducible exact hA5) | (with_reducible exact hA5.drew) | (with_reducible exact hB6) | (with_reducible exact hB6.drew) | (with_reducible exact hB7) | (with_reducible exact hB7.drew)))
        (first | (go_at_call 14; (with_reducible refine (NPS.out _).mono ?_); rintro e w5 ⟨rfl, hb5⟩; have hB5 : Below wc.heap.size wc w5 := (by first | (with_reducible exact hb5) | exact below_call (Below.refl wc.heap.size wc).drew hb5); have hA5 := Below.alloc hB5 hB5.size (.cells #[Value.int .i64 0, Value.int .i64 2, Value.int .i64 0, Value.int .i64 0, Value.int .i64 0, Value.int .i64 0, Value.int .i32 0, Value.int .i64 7, Value.int .i64 1025, Value.int .i64 1, Value.int .i64 19, Value.int .i64 0, Value.int .i64 0, Value.int .i64 0, Value.int .i32 0, Value.int .i64 0, Value.int .i64 0, Value.int .i64 3, Value.int .i64 36, Value.int .i64 0, Value.int .i64 0, Value.int .i64 0, Value.int .i32 0, Value.int .i64 7] 40); clear hb5) | (go_at_call 5; (with_reducible refine (ITS.out _).mono ?_); rintro e w6 ⟨a6, c6, rfl, hc6, hi6, hb6⟩; have hB6 := below_call hA5 hb6; clear hb6) | (go_at_call 6; (with_reducible refine (LYS.out _ _ _ hi6 hc6).mono ?_); rintro e w7 ⟨b, bf, F, rfl, hr, hf, hb7⟩; have hB7 := below_call hB6 hb7; clear hb7))
      all_goals (go_wp2_with fail)
      all_goals go_meet
      all_goals (first | exact ⟨b, bf, F, rfl, rfl, rfl, hr, hf, hB7⟩ | exact ⟨b, bf, F, rfl, rfl, rfl, hr.drew, hf, hB7.drew⟩)
    case rest =>
      obtain ⟨b2, bf2, F2, h3, h4, h5, hr2, hf2, hb2⟩ := hcut
      subst h3 h4 h5
      have BC2 := Lib.hid (below_call BC1.out hb2)
      have rf1 := RF1.out.over hb2
      have f0 := rf1.cell 1025 _ (bR_at F1 (by omega))
      rw [HF1.out] at f0
      have f1 := rf1.lt
      have g0 := hr2.cell 1026 _ (bR_at F2 (by omega))
      rw [hf2] at g0
      have g1 := hr2.lt
      clear hr2 hf2 hb2 rf1 PS NPS ITS LYS
      go_wp2_with fail
      go_ret
      exact ⟨rfl, BC2.out⟩
end Go.Proofs.Ytldjidhdmbeidaa
