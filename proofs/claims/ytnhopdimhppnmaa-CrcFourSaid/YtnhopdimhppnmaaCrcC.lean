/- Contracts of the law's own helpers on bytes: few, lives; appends. -/
import Derived.Test.YtnhopdimhppnmaaCrcB
import Derived.Lib.SlBytesConst
import Derived.OwnWalk
namespace Go.Proofs.Ytnhopdimhppnmaa
open Go Go.RowKit Pl
set_option linter.unusedVariables false

theorem info_u8 : (Try.prog.info? 5).map (fun i => (i.zero, i.size, i.bytes)) = some (some (.int .u8 0), 1, 1) := by kernel_rfl
def u8v (x : Nat) : Value := .int .u8 (x : Int)
/-- bytes that the call itself owns -/
def OwnBytes (w : World) (base : Nat) (v : Value) (l : List Nat) : Prop := w.ownsRow base 5 1 v l.length (l.map u8v) ∧ (∀ x ∈ l, x < 256)

/-- a slice of bytes, with its spare room -/
def SliceIn (w : World) (a : Option Addr) (l : List Nat) (c : Nat) : Prop :=
  (∀ x ∈ l, x < 256) ∧ l.length ≤ c ∧ c ≤ 9223372036854775807 ∧
  ((a = none ∧ l = [] ∧ c = 0) ∨ ((∃ x, a = some x) ∧ l = []) ∨ ∃ b off, a = some ⟨b, off, none⟩ ∧ b < w.heap.size ∧ ∀ k, k < l.length → w.cell? ⟨b, off + k, none⟩ = some (.int .u8 (l.getD k 0 : Nat)))
theorem SliceIn.bytes {w : World} {a : Option Addr} {l : List Nat} {c : Nat} (h : SliceIn w a l c) : BytesAt w a l := by
  obtain ⟨h1, h2, h3, ⟨_, rfl, _⟩ | ⟨_, rfl⟩ | h⟩ := h
  · exact ⟨h1, by simp, Or.inl rfl⟩
  · exact ⟨h1, by simp, Or.inl rfl⟩
  · exact ⟨h1, by omega, Or.inr h⟩
theorem SliceIn.later {w w' : World} {a : Option Addr} {l : List Nat} {c : Nat} (h : SliceIn w a l c) (hb : Below w.heap.size w w') : SliceIn w' a l c := by
  obtain ⟨h1, h2, h3, h | h | ⟨b, off, rfl, hlt, hc⟩⟩ := h
  · exact ⟨h1, h2, h3, Or.inl h⟩
  · exact ⟨h1, h2, h3, Or.inr (Or.inl h)⟩
  · exact ⟨h1, h2, h3, Or.inr (Or.inr ⟨b, off, rfl, Nat.lt_of_lt_of_le hlt hb.size, fun k hk => (hb.cell hlt).trans (hc k hk)⟩)⟩

theorem own_at {w : World} {base : Nat} {v : Value} {l : List Nat} (h : OwnBytes w base v l) (hb : base ≤ w.heap.size) (hl : l.length ≤ 9223372036854775807) :
    ∃ a c, v = .slice a l.length c ∧ SliceIn w a l c := by
  obtain ⟨h, h256⟩ := h
  have hlt := h.lt
  have h' := h
  obtain ⟨_, ⟨hv, hn⟩ | ⟨g, cap, cur, hv, hg, hh, hc, hcm, _⟩⟩ := h
  · have : l = [] := by cases l with | nil => rfl | cons _ _ => simp at hn
    subst this
    exact ⟨none, 0, hv, h256, by simp, by omega, Or.inl ⟨rfl, rfl, rfl⟩⟩
  · refine ⟨some ⟨g, 0, none⟩, cap, hv, h256, hc, by unfold maxLen at hcm; omega, Or.inr (Or.inr ⟨g, 0, rfl, ?_, ?_⟩)⟩
    · exact (hlt g (by rw [hv]; rfl)).2
    · intro k hk
      have := h'.cells (g := g) (by rw [hv]; rfl) k (u8v (l.getD k 0)) (by simp [u8v, List.getD, hk])
      have e : (⟨g, 0, none⟩ : Addr).add k = ⟨g, 0 + k, none⟩ := by unfold Addr.add; split <;> simp_all
      rw [e] at this
      exact this

theorem own_empty (w : World) (base : Nat) (hb : base ≤ w.heap.size) : (w.alloc (.cells #[] 5)).ownsRow base 5 1 (.slice (some ⟨w.heap.size, 0, none⟩) 0 0) 0 [] :=
  ⟨rfl, Or.inr ⟨w.heap.size, 0, #[], rfl, hb, by show (w.heap.push _)[w.heap.size]? = _; simp, Nat.le_refl _, by simp [maxLen], rfl, rfl⟩⟩

theorem below_grown_trans {w a b : World} (h : Below w.heap.size w a) (k : Below a.heap.size a b) : Below w.heap.size w b := h.trans (k.mono h.size)

set_option maxRecDepth 100000 in
set_option maxHeartbeats 400000 in
theorem law8_lives (w : World) : Calls Try.prog 18 #[] w fun e w' => e = .returned (.bool true) ∧ Below w.heap.size w w' := by
  have kc := fun (w : World) (C : Array Value) (n c : Nat) => Lib.run_convert_bytes_const (P := Try.prog) w 22 5 C n c Try.underlying22 Try.underlying5
  go_enter Try.func18, Try.ntmps18
  go_wp2_with fail
  refine (sum_any _ 9 [49, 50, 51, 52, 53, 54, 55, 56, 57] _ ?hb).mono ?_
  case hb =>
    refine ⟨by decide, by decide, Or.inr ⟨w.heap.size, 0, rfl, by simp, ?_⟩⟩
    intro k hk
    simp at hk
    obtain rfl | rfl | rfl | rfl | rfl | rfl | rfl | rfl | rfl : k = 0 ∨ k = 1 ∨ k = 2 ∨ k = 3 ∨ k = 4 ∨ k = 5 ∨ k = 6 ∨ k = 7 ∨ k = 8 := by omega
    all_goals (rw [World.cell?_alloc_mark]; rfl)
  rw [crc_lives]
  rintro e w1 ⟨rfl, hb⟩
  go_wp2_with fail
  go_ret
  exact ⟨rfl, below_grown_trans (by go_grown) hb⟩

theorem news_at {w : World} {b off : Nat} {l : List Nat} (hc : ∀ k, k < l.length → w.cell? ⟨b, off + k, none⟩ = some (.int .u8 (l.getD k 0 : Nat))) (m : Nat) (w' : World)
    (hw : ∀ k, w'.cell? ⟨b, k, none⟩ = w.cell? ⟨b, k, none⟩) : ∀ j u, ((l.take m).map u8v)[j]? = some u → w'.cell? ((⟨b, off, none⟩ : Addr).add j) = some u := by
  intro j u h
  have e : (⟨b, off, none⟩ : Addr).add j = ⟨b, off + j, none⟩ := by unfold Addr.add; split <;> simp_all
  rw [e, hw]
  simp only [List.getElem?_map, Option.map_eq_some_iff] at h
  obtain ⟨x, hx, rfl⟩ := h
  have hj : j < l.length := by
    rcases Nat.lt_or_ge j l.length with g | g
    · exact g
    · rw [List.getElem?_eq_none (by simp; omega)] at hx; cases hx
  rw [hc j hj]
  have : l[j]? = some x := by
    rw [List.getElem?_take] at hx
    split at hx
    · exact hx
    · cases hx
  simp [u8v, List.getD, this]
theorem one_cell (l : List Nat) : ∀ u ∈ l.map u8v, u.oneCell' = true := by
  intro u hu
  simp only [List.mem_map] at hu
  obtain ⟨x, _, rfl⟩ := hu
  rfl
theorem below_grown {w w1 w' : World} {v : Value} (h : Below w.heap.size w w1) (hg : w1.grownBy w' v.ownBlock) (hv : ∀ k, v.ownBlock = some k → w.heap.size ≤ k) : Below w.heap.size w w' :=
  h.grown hg h.size hv

theorem grown_below {w w1 : World} (hg : (w.alloc (.cells #[] 5)).grownBy w1 (Value.slice (some ⟨w.heap.size, 0, none⟩) 0 0).ownBlock) : Below w.heap.size w w1 :=
  ((Below.refl _ _).alloc (Nat.le_refl _) _).grown hg (by simp) (fun k hk => by cases hk; exact Nat.le_refl _)
theorem take_all {l : List Nat} (h : l.length ≤ 300) : l.take 300 = l := List.take_of_length_le h

/-- what few leaves -/
def FewPost (w : World) (l : List Nat) (e : Ending) (w' : World) : Prop := ∃ v, e = .returned v ∧ (OwnBytes w' w.heap.size v (l.take 300) ∧ v ≠ .slice none 0 0) ∧ Below w.heap.size w w'

set_option maxRecDepth 100000 in
set_option maxHeartbeats 400000 in
theorem few_any (a : Option Addr) (c : Nat) (l : List Nat) (w : World) (hl : SliceIn w a l c) :
    Calls Try.prog 16 #[.slice a l.length c] w (FewPost w l) := by
  obtain ⟨i0, hi, hz0, hz1, hz2⟩ := info_parts info_u8
  obtain ⟨h256, hc, hcm, hcell⟩ := hl
  have own0 := own_empty w w.heap.size (Nat.le_refl _)
  have OWN0 := Lib.hid own0
  clear own0
  have H256 := Lib.hid (show ∀ x ∈ l.take 300, x < 256 from fun x hx => h256 x (List.mem_of_mem_take hx))
  have len1 : ((l.take 300).map u8v).length = (l.take 300).length * 1 := by simp
  clear h256
  rcases hcell with ⟨rfl, rfl, rfl⟩ | ⟨⟨x, rfl⟩, rfl⟩ | ⟨b, off, rfl, hb, hcs⟩
  · clear len1
    go_enter Try.func16, Try.ntmps16
    go_wp2_with fail
    go_ret
    exact ⟨_, rfl, ⟨⟨by simpa using OWN0.out, H256.out⟩, by intro h; cases h⟩, by go_grown⟩
  · clear len1
    go_enter Try.func16, Try.ntmps16
    go_wp2_with fail
    go_ret
    exact ⟨_, rfl, ⟨⟨by simpa using OWN0.out, H256.out⟩, by intro h; cases h⟩, by go_grown⟩
  · have NW := Lib.hid (fun m => news_at hcs m (w.alloc (.cells #[] 5)) (fun k => World.cell?_alloc_past (w := w) _ _ _ hb))
    clear hcs
    by_cases h : 300 < l.length
    · have hlen : (l.take 300).length = 300 := by simp; omega
      have HLEN := Lib.hid hlen
      have LN := Lib.hid (show ((l.take 300).map u8v).length = 300 * 1 by rw [len1, hlen])
      clear len1 hlen
      go_enter Try.func16, Try.ntmps16
      go_wp2_with fail
      refine wp_append_own (w.alloc (.cells #[] 5)) (.tmp 8) (.tmp 9) 22 rfl w.heap.size 5 i0 (.int .u8 0) 1 1 Try.underlying22 hi hz0 hz1 hz2 rfl (by decide) (.slice (some ⟨w.heap.size, 0, none⟩) 0 0) 0 [] rfl OWN0.out ⟨b, off, none⟩ 300 c ((l.take 300).map u8v) rfl LN.out (NW.out 300) (one_cell _) ?d1 ?d2 ?d3 ?_
      case d1 => simp [maxLen]
      case d2 => omega
      case d3 => simp
      intro v' w1 hown hg hn
      go_wp2
      go_ret
      exact ⟨v', rfl, ⟨⟨by rw [HLEN.out]; simpa using hown, H256.out⟩, fun h => by have := (hn.1 h).1; cases this⟩, grown_below hg⟩
    · have hlen : (l.take 300).length = l.length := by rw [take_all (by omega)]
      have HLEN := Lib.hid hlen
      have LN := Lib.hid (show ((l.take 300).map u8v).length = l.length * 1 by rw [len1, hlen])
      have h3 : l.length ≤ 300 := by omega
      have E1 := Lib.hid (show 0 + l.length ≤ maxLen by simp [maxLen]; omega)
      have E2 := Lib.hid (show (0 + l.length) * 1 ≤ 140737488355328 by omega)
      have E3 := Lib.hid (show w.heap.size ≤ (w.alloc (.cells #[] 5)).heap.size by simp)
      clear len1 hlen h
      go_enter Try.func16, Try.ntmps16
      go_wp2_with (at_builtin; refine wpList_append_own (w.alloc (.cells #[] 5)) rfl (.tmp 8) (.tmp 9) 22 rfl w.heap.size 5 i0 (.int .u8 0) 1 1 Try.underlying22 hi hz0 hz1 hz2 rfl Nat.one_pos (.slice (some ⟨w.heap.size, 0, none⟩) 0 0) 0 [] rfl OWN0.out ⟨b, off, none⟩ l.length c ((l.take 300).map u8v) rfl LN.out (NW.out 300) (one_cell _) E1.out E2.out E3.out ?_; intro v' w1 hown hg hn)
      go_ret
      exact ⟨v', rfl, ⟨⟨by rw [HLEN.out]; simpa using hown, H256.out⟩, fun h => by have := (hn.1 h).1; cases this⟩, grown_below hg⟩
end Go.Proofs.Ytnhopdimhppnmaa
