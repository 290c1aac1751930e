/- Package flow, layer 42: the law's few words; which places there are; what goes on. -/
import Derived.Test.YtmlhoagcppofgaaDoorFlW
import Derived.OwnWalk
namespace Go.Proofs.YtmlhoagcppofgaaDoor
open Go Go.RowKit Pl
set_option linter.unusedVariables false

theorem info_u32w : (Tryd.prog.info? 32).map (fun i => (i.zero, i.size, i.bytes)) = some (some (.int .u32 0), 1, 4) := by kernel_rfl
def u32v (x : Nat) : Value := .int .u32 (x : Int)
theorem news_w {w : World} {b off : Nat} {l : List Nat} (hc : ∀ k, k < l.length → w.cell? ⟨b, off + k, none⟩ = some (.int .u32 (l.getD k 0 : Nat))) (m : Nat) (w' : World)
    (hw : ∀ k, w'.cell? ⟨b, k, none⟩ = w.cell? ⟨b, k, none⟩) : ∀ j u, ((l.take m).map u32v)[j]? = some u → w'.cell? ((⟨b, off, none⟩ : Addr).add j) = some u := by
  intro j u h
  have e : (⟨b, off, none⟩ : Addr).add j = ⟨b, off + j, none⟩ := by unfold Addr.add; split <;> simp_all
  rw [e, hw]
  simp only [List.getElem?_map, Option.map_eq_some_iff] at h
  obtain ⟨x, hx, rfl⟩ := h
  have hj : j < l.length := by
    rcases Nat.lt_or_ge j l.length with g | g
    · exact g
    · rw [List.getElem?_eq_none (by simp; omega)] at hx; cases hx
  rw [hc j hj]
  have : l[j]? = some x := by
    rw [List.getElem?_take] at hx
    split at hx
    · exact hx
    · cases hx
  simp [u32v, List.getD, this]
theorem one_cell_w (l : List Nat) : ∀ u ∈ l.map u32v, u.oneCell' = true := by
  intro u hu
  simp only [List.mem_map] at hu
  obtain ⟨x, _, rfl⟩ := hu
  rfl
theorem own_empty_w (w : World) (base : Nat) (hb : base ≤ w.heap.size) : (w.alloc (.cells #[] 32)).ownsRow base 32 1 (.slice (some ⟨w.heap.size, 0, none⟩) 0 0) 0 [] :=
  ⟨rfl, Or.inr ⟨w.heap.size, 0, #[], rfl, hb, by show (w.heap.push _)[w.heap.size]? = _; simp, Nat.le_refl _, by simp [maxLen], rfl, rfl⟩⟩
theorem own_words {w : World} {base : Nat} {v : Value} {l : List Nat} (h : w.ownsRow base 32 1 v l.length (l.map u32v)) (h32 : ∀ x ∈ l, x < 4294967296) :
    ∃ a c, v = .slice a l.length c ∧ WordsC w a l c := by
  have hlt := h.lt
  have h' := h
  obtain ⟨_, ⟨hv, hn⟩ | ⟨g, cap, cur, hv, hg, hh, hc, hcm, _⟩⟩ := h
  · have : l = [] := by cases l with | nil => rfl | cons _ _ => simp at hn
    subst this
    exact ⟨none, 0, hv, h32, by simp, by omega, Or.inl rfl⟩
  · refine ⟨some ⟨g, 0, none⟩, cap, hv, h32, hc, by unfold maxLen at hcm; omega, Or.inr ⟨g, 0, rfl, ?_, ?_⟩⟩
    · exact (hlt g (by rw [hv]; rfl)).2
    · intro k hk
      have := h'.cells (g := g) (by rw [hv]; rfl) k (u32v (l.getD k 0)) (by simp [u32v, List.getD, hk])
      have e : (⟨g, 0, none⟩ : Addr).add k = ⟨g, 0 + k, none⟩ := by unfold Addr.add; split <;> simp_all
      rw [e] at this
      exact this
theorem grown_below_w {w w1 : World} (hg : (w.alloc (.cells #[] 32)).grownBy w1 (Value.slice (some ⟨w.heap.size, 0, none⟩) 0 0).ownBlock) : Below w.heap.size w w1 :=
  ((Below.refl _ _).alloc (Nat.le_refl _) _).grown hg (by simp) (fun k hk => by cases hk; exact Nat.le_refl _)
/-- what few leaves -/
def FewW (w : World) (l : List Nat) (e : Ending) (w' : World) : Prop := ∃ a c, e = .returned (.slice a (l.take 30).length c) ∧ WordsC w' a (l.take 30) c ∧ Below w.heap.size w w'

set_option maxRecDepth 100000 in
set_option maxHeartbeats 400000 in
theorem wfew_any (a : Option Addr) (c : Nat) (l : List Nat) (w : World) (hl : WordsC w a l c) :
    Calls Tryd.prog 7 #[.slice a l.length c] w (FewW w l) := by
  obtain ⟨i0, hi, hz0, hz1, hz2⟩ := info_parts info_u32w
  obtain ⟨h32, hc, hcm, hcell⟩ := hl
  have OWN0 := Lib.hid (own_empty_w w w.heap.size (Nat.le_refl _))
  have H32 := Lib.hid (show ∀ x ∈ l.take 30, x < 4294967296 from fun x hx => h32 x (List.mem_of_mem_take hx))
  have len1 : ((l.take 30).map u32v).length = (l.take 30).length * 1 := by simp
  clear h32
  rcases hcell with rfl | ⟨b, off, rfl, hb, hcs⟩
  · clear len1
    cases a with
    | none =>
      go_enter Tryd.func7, Tryd.ntmps7
      go_wp2_with fail
      go_ret
      exact ⟨_, 0, rfl, ⟨by simp, by simp, by omega, Or.inl rfl⟩, by go_grown⟩
    | some x =>
      go_enter Tryd.func7, Tryd.ntmps7
      go_wp2_with fail
      go_ret
      exact ⟨_, 0, rfl, ⟨by simp, by simp, by omega, Or.inl rfl⟩, by go_grown⟩
  · have NW := Lib.hid (fun m => news_w hcs m (w.alloc (.cells #[] 32)) (fun k => World.cell?_alloc_past (w := w) _ _ _ hb))
    clear hcs
    by_cases h : 30 < l.length
    · have hlen : (l.take 30).length = 30 := by simp; omega
      have HLEN := Lib.hid hlen
      have LN := Lib.hid (show ((l.take 30).map u32v).length = 30 * 1 by rw [len1, hlen])
      have E1 := Lib.hid (show 0 + 30 ≤ maxLen by simp [maxLen])
      have E2 := Lib.hid (show (0 + 30) * 4 ≤ 140737488355328 by omega)
      have E3 := Lib.hid (show w.heap.size ≤ (w.alloc (.cells #[] 32)).heap.size by simp)
      clear len1 hlen
      go_enter Tryd.func7, Tryd.ntmps7
      go_wp2_with (at_builtin; refine wpList_append_own (w.alloc (.cells #[] 32)) rfl (.tmp 8) (.tmp 9) 22 rfl w.heap.size 32 i0 (.int .u32 0) 1 4 Tryd.underlying22 hi hz0 hz1 hz2 rfl Nat.one_pos (.slice (some ⟨w.heap.size, 0, none⟩) 0 0) 0 [] rfl OWN0.out ⟨b, off, none⟩ 30 c ((l.take 30).map u32v) rfl LN.out (NW.out 30) (one_cell_w _) E1.out E2.out E3.out ?_; intro v' w1 hown hg hn)
      go_ret
      obtain ⟨a', c', rfl, hW⟩ := own_words (l := l.take 30) (by rw [HLEN.out]; simpa using hown) H32.out
      refine ⟨a', c', ?_, hW, grown_below_w hg⟩
      rw [HLEN.out]; rfl
    · have hlen : (l.take 30).length = l.length := by rw [List.take_of_length_le (by omega)]
      have HLEN := Lib.hid hlen
      have LN := Lib.hid (show ((l.take 30).map u32v).length = l.length * 1 by rw [len1, hlen])
      have E1 := Lib.hid (show 0 + l.length ≤ maxLen by simp [maxLen]; omega)
      have E2 := Lib.hid (show (0 + l.length) * 4 ≤ 140737488355328 by omega)
      have E3 := Lib.hid (show w.heap.size ≤ (w.alloc (.cells #[] 32)).heap.size by simp)
      have h3 : l.length ≤ 30 := by omega
      clear len1 hlen h
      go_enter Tryd.func7, Tryd.ntmps7
      go_wp2_with (at_builtin; refine wpList_append_own (w.alloc (.cells #[] 32)) rfl (.tmp 8) (.tmp 9) 22 rfl w.heap.size 32 i0 (.int .u32 0) 1 4 Tryd.underlying22 hi hz0 hz1 hz2 rfl Nat.one_pos (.slice (some ⟨w.heap.size, 0, none⟩) 0 0) 0 [] rfl OWN0.out ⟨b, off, none⟩ l.length c ((l.take 30).map u32v) rfl LN.out (NW.out 30) (one_cell_w _) E1.out E2.out E3.out ?_; intro v' w1 hown hg hn)
      go_ret
      obtain ⟨a', c', rfl, hW⟩ := own_words (l := l.take 30) (by rw [HLEN.out]; simpa using hown) H32.out
      exact ⟨a', c', rfl, hW, grown_below_w hg⟩

theorem isPlace_yes (a : Option Addr) (n c : Nat) (k : Nat) (W : World) (h : k < n) (hn : n ≤ 1000) :
    Calls Tryd.prog 20 #[.slice a n c, .int .i64 (k : Nat)] W fun e w' => e = .returned (.bool true) ∧ W = w' := by
  go_enter Tryd.func20, Tryd.ntmps20
  go_wp2
  go_ret
  exact ⟨by simp, rfl⟩
theorem isPlace_any (a : Option Addr) (n c : Nat) (k : Int) (W : World) (hn : n ≤ 1000) :
    Calls Tryd.prog 20 #[.slice a n c, .int .i64 k] W fun e w' => e = .returned (.bool (decide (0 ≤ k ∧ k < n))) ∧ W = w' := by
  by_cases h : 0 ≤ k
  · have t : decide (0 ≤ k) = true := by simp [h]
    have t' : decide (k ≥ 0) = true := by simp [h]
    have T := Lib.hid h
    clear h
    go_enter Tryd.func20, Tryd.ntmps20
    go_wp2
    go_ret
    exact ⟨by simp [T.out], rfl⟩
  · have t : decide (0 ≤ k) = false := by simp; omega
    have t' : decide (k ≥ 0) = false := by simp; omega
    have T := Lib.hid (show decide (0 ≤ k ∧ k < (n : Int)) = false by simp; omega)
    clear h
    go_enter Tryd.func20, Tryd.ntmps20
    go_wp2
    go_ret
    rw [T.out]
    exact ⟨rfl, rfl⟩
/-- an operation behind which the next word is done -/
def onO (o : Int) : Bool := decide (o ≠ 44 ∧ o ≠ 47 ∧ o ≠ 48)
theorem goesOn_any (o : Int) (W : World) : Calls Tryd.prog 25 #[.int .i64 o] W fun e w' => e = .returned (.bool (onO o)) ∧ W = w' := by
  by_cases h1 : o = 44
  · subst h1
    go_enter Tryd.func25, Tryd.ntmps25
    go_wp2
    go_ret
    exact ⟨rfl, rfl⟩
  · by_cases h2 : o = 47
    · subst h2
      go_enter Tryd.func25, Tryd.ntmps25
      go_wp2
      go_ret
      exact ⟨rfl, rfl⟩
    · have t1 : (o == 44) = false := by simp [h1]
      have t2 : (o != 44) = true := by simp [h1]
      have t3 : (o == 47) = false := by simp [h2]
      have t4 : (o != 47) = true := by simp [h2]
      have H := Lib.hid (show onO o = (o != 48) by unfold onO; by_cases h : o = 48 <;> simp [h, h1, h2])
      clear h1 h2
      go_enter Tryd.func25, Tryd.ntmps25
      go_wp2
      go_ret
      rw [H.out]
      exact ⟨rfl, rfl⟩
end Go.Proofs.YtmlhoagcppofgaaDoor
