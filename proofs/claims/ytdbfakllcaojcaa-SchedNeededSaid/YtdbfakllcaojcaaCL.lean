/- slices.Clone of nodes. -/
import Derived.Test.YtdbfakllcaojcaaFG
import Derived.Deep.OwnRows
import Derived.WalkSpells
import Derived.Test.YtdbfakllcaojcaaFew
namespace Go.Proofs.Ytdbfakllcaojcaa
open Go Go.RowKit
set_option linter.unusedVariables false
set_option linter.unusedSimpArgs false
set_option maxRecDepth 100000

theorem own_nilV (w : World) (base size : Nat) (e : TypeId) : w.ownsRow base e size (.slice none 0 0) 0 [] := ⟨by simp, Or.inl ⟨rfl, rfl⟩⟩
set_option maxHeartbeats 4000000 in
theorem clone_nd (na : Option Addr) (nc : Nat) (ns : List Nd) (w : World) (hN : NdsIn w na ns nc) (hn : ns.length ≤ 1000) :
    Calls Try.prog 56 #[.slice na ns.length nc] w fun e w' => ∃ v, e = .returned v ∧ Below w.heap.size w w' ∧ w'.ownsRow w.heap.size 57 26 v ns.length (nd26 ns) := by
  obtain ⟨i1, z1, hi1, hz1, hz2, hz3, hz4⟩ : ∃ i z, Try.prog.info? 57 = some i ∧ i.zero = some z ∧ i.size = 26 ∧ i.bytes = 200 ∧ z.cells.size = 26 := ⟨(Try.prog.info? 57).get!, (Try.prog.info? 57).get!.zero.get!, by kernel_rfl, by kernel_rfl, by kernel_rfl, by kernel_rfl, by kernel_rfl⟩
  have HN := Lib.hid hN
  have hnl := hN.1
  rw [List.length_map] at hnl
  have hcb : nc ≤ 9223372036854775807 := hN.2.1
  have OE := Lib.hid (own_emptyT w w.heap.size 57 26 (Nat.le_refl _))
  have BL := Lib.hid (Below.alloc (Below.refl w.heap.size w) (Nat.le_refl _) (.cells #[] 57))
  have EQN := fun (W : World) (a : Option Addr) (l c : Nat) => Lib.run_eql_slice_nil (P := Try.prog) W 24 57 a l c 0 0 Try.underlying24
  by_cases h0 : ns = []
  · subst h0
    clear hN
    cases na with
    | none =>
      have hnc : nc = 0 := by
        obtain ⟨_, _, _, ⟨_, _, h⟩ | ⟨⟨x, h⟩, _⟩ | ⟨b, off, h, _⟩⟩ := HN.out
        · exact h
        · cases h
        · cases h
      subst hnc
      go_enter Try.func56, Try.ntmps56
      go_wp2_with fail
      go_ret
      exact ⟨_, rfl, Below.refl _ _, own_nilV w _ _ _⟩
    | some a =>
      go_enter Try.func56, Try.ntmps56
      go_wp2_with (at_builtin; refine wpList_append_zero rfl (.tmp 5) (.tmp 6) 24 rfl 57 i1 z1 Try.underlying24 hi1 hz1 w.heap.size rfl (some a) nc rfl ?_)
      go_ret
      exact ⟨_, rfl, BL.out, OE.out⟩
  · have hpos : 0 < ns.length := List.length_pos_iff.2 h0
    obtain ⟨b, off, hna, hb⟩ : ∃ b off, na = some ⟨b, off, none⟩ ∧ b < w.heap.size := by
      obtain ⟨n, hn⟩ : ∃ n, ns[0]? = some n := ⟨_, List.getElem?_eq_getElem hpos⟩
      obtain ⟨b, off, h1, h2, _⟩ := nds_range hN 0 n hn
      exact ⟨b, off, h1, h2⟩
    subst hna
    have hnw := nds_news hN BL.out ns.length
    rw [List.take_length] at hnw
    have NW := Lib.hid hnw
    have NO := Lib.hid (show ∀ u ∈ nd26 ns, u.oneCell' = true from fun u hu => by obtain ⟨n, _, hn⟩ := List.mem_flatMap.1 hu; exact Nd.one n u hn)
    have NLn := Lib.hid (nd26_len ns)
    have E1 := Lib.hid (show 0 + ns.length ≤ maxLen by unfold maxLen; omega)
    have E2 := Lib.hid (show (0 + ns.length) * 200 ≤ 140737488355328 by omega)
    have NE4 := Lib.hid (show ∀ x, (Value.slice (some ⟨w.heap.size, 0, none⟩) 0 0).ownBlock = some x → w.heap.size ≤ x by intro x hx; simp [Value.ownBlock] at hx; omega)
    clear hN h0 hnw
    go_enter Try.func56, Try.ntmps56
    go_wp2_with (at_builtin; refine wpList_append_own _ rfl (.tmp 5) (.tmp 6) 24 rfl w.heap.size 57 i1 z1 26 200 Try.underlying24 hi1 hz1 hz2 hz3 hz4 (by decide) _ 0 [] rfl OE.out ⟨b, off, none⟩ ns.length nc (nd26 ns) rfl NLn.out NW.out NO.out E1.out E2.out (by simp) ?_; intro v' w6 hown6 hg6 hn6; rw [Nat.zero_add, List.nil_append] at hown6)
    go_ret
    exact ⟨_, rfl, BL.out.grown hg6 BL.out.size NE4.out, hown6⟩
end Go.Proofs.Ytdbfakllcaojcaa

namespace Go.Proofs.Ytdbfakllcaojcaa
open Go Go.RowKit
set_option linter.unusedVariables false
set_option linter.unusedSimpArgs false
set_option maxRecDepth 100000

theorem ints_noneC {k : IntKind} {w : World} {l : List Int} {c : Nat} (h : IntsIn k w none l c) : l = [] ∧ c = 0 := by
  obtain ⟨⟨_, _, _, ⟨_, h1, h2⟩ | ⟨⟨x, h1⟩, _⟩ | ⟨b, off, h1, _⟩⟩, _⟩ := h
  · exact ⟨by simpa using h1, h2⟩
  · cases h1
  · cases h1
set_option maxHeartbeats 4000000 in
theorem clone_i8 (na : Option Addr) (nc : Nat) (l : List Int) (w : World) (hN : IntsIn .i8 w na l nc) (hn : l.length ≤ 1000000) :
    Calls Try.prog 57 #[.slice na l.length nc] w fun e w' => ∃ v, e = .returned v ∧ Below w.heap.size w w' ∧ w'.ownsRow w.heap.size 73 1 v l.length (l.map fun z => .int .i8 z) := by
  obtain ⟨i1, hi1, hz1, hz2, hz3⟩ : ∃ i, Try.prog.info? 73 = some i ∧ i.zero = some (.int .i8 0) ∧ i.size = 1 ∧ i.bytes = 1 := ⟨(Try.prog.info? 73).get!, by kernel_rfl, by kernel_rfl, by kernel_rfl, by kernel_rfl⟩
  have HN := Lib.hid hN
  have hnl := hN.1.1
  rw [List.length_map] at hnl
  have hcb : nc ≤ 9223372036854775807 := hN.1.2.1
  have OE := Lib.hid (own_emptyT w w.heap.size 73 1 (Nat.le_refl _))
  have BL := Lib.hid (Below.alloc (Below.refl w.heap.size w) (Nat.le_refl _) (.cells #[] 73))
  have EQN := fun (W : World) (a : Option Addr) (l c : Nat) => Lib.run_eql_slice_nil (P := Try.prog) W 59 73 a l c 0 0 Try.underlying59
  by_cases h0 : l = []
  · subst h0
    clear hN
    cases na with
    | none =>
      obtain ⟨_, rfl⟩ := ints_noneC HN.out
      go_enter Try.func57, Try.ntmps57
      go_wp2_with fail
      go_ret
      exact ⟨_, rfl, Below.refl _ _, own_nilV w _ _ _⟩
    | some a =>
      go_enter Try.func57, Try.ntmps57
      go_wp2_with (at_builtin; refine wpList_append_zero rfl (.tmp 5) (.tmp 6) 59 rfl 73 i1 (.int .i8 0) Try.underlying59 hi1 hz1 w.heap.size rfl (some a) nc rfl ?_)
      go_ret
      exact ⟨_, rfl, BL.out, OE.out⟩
  · have hpos : 0 < l.length := List.length_pos_iff.2 h0
    obtain ⟨b, off, hna, hb⟩ := ints_some hN hpos
    subst hna
    have hnw := ints_news hN BL.out l.length
    rw [List.take_length] at hnw
    have NW := Lib.hid hnw
    have NO := Lib.hid (show ∀ u ∈ (l.map fun z => Value.int .i8 z), u.oneCell' = true from fun u hu => by obtain ⟨n, _, rfl⟩ := List.mem_map.1 hu; rfl)
    have NLn := Lib.hid (show (l.map fun z => Value.int .i8 z).length = l.length * 1 by simp)
    have E1 := Lib.hid (show 0 + l.length ≤ maxLen by unfold maxLen; omega)
    have E2 := Lib.hid (show (0 + l.length) * 1 ≤ 140737488355328 by omega)
    have NE4 := Lib.hid (show ∀ x, (Value.slice (some ⟨w.heap.size, 0, none⟩) 0 0).ownBlock = some x → w.heap.size ≤ x by intro x hx; simp [Value.ownBlock] at hx; omega)
    clear hN h0 hnw
    go_enter Try.func57, Try.ntmps57
    go_wp2_with (at_builtin; refine wpList_append_own _ rfl (.tmp 5) (.tmp 6) 59 rfl w.heap.size 73 i1 (.int .i8 0) 1 1 Try.underlying59 hi1 hz1 hz2 hz3 rfl (by decide) _ 0 [] rfl OE.out ⟨b, off, none⟩ l.length nc (l.map fun z => .int .i8 z) rfl NLn.out NW.out NO.out E1.out E2.out (by simp) ?_; intro v' w6 hown6 hg6 hn6; rw [Nat.zero_add, List.nil_append] at hown6)
    go_ret
    exact ⟨_, rfl, BL.out.grown hg6 BL.out.size NE4.out, hown6⟩
set_option maxHeartbeats 4000000 in
theorem clone_i32 (na : Option Addr) (nc : Nat) (l : List Int) (w : World) (hN : IntsIn .i32 w na l nc) (hn : l.length ≤ 1000000) :
    Calls Try.prog 58 #[.slice na l.length nc] w fun e w' => ∃ v, e = .returned v ∧ Below w.heap.size w w' ∧ w'.ownsRow w.heap.size 21 1 v l.length (l.map fun z => .int .i32 z) := by
  obtain ⟨i1, hi1, hz1, hz2, hz3⟩ : ∃ i, Try.prog.info? 21 = some i ∧ i.zero = some (.int .i32 0) ∧ i.size = 1 ∧ i.bytes = 4 := ⟨(Try.prog.info? 21).get!, by kernel_rfl, by kernel_rfl, by kernel_rfl, by kernel_rfl⟩
  have HN := Lib.hid hN
  have hnl := hN.1.1
  rw [List.length_map] at hnl
  have hcb : nc ≤ 9223372036854775807 := hN.1.2.1
  have OE := Lib.hid (own_emptyT w w.heap.size 21 1 (Nat.le_refl _))
  have BL := Lib.hid (Below.alloc (Below.refl w.heap.size w) (Nat.le_refl _) (.cells #[] 21))
  have EQN := fun (W : World) (a : Option Addr) (l c : Nat) => Lib.run_eql_slice_nil (P := Try.prog) W 60 21 a l c 0 0 Try.underlying60
  by_cases h0 : l = []
  · subst h0
    clear hN
    cases na with
    | none =>
      obtain ⟨_, rfl⟩ := ints_noneC HN.out
      go_enter Try.func58, Try.ntmps58
      go_wp2_with fail
      go_ret
      exact ⟨_, rfl, Below.refl _ _, own_nilV w _ _ _⟩
    | some a =>
      go_enter Try.func58, Try.ntmps58
      go_wp2_with (at_builtin; refine wpList_append_zero rfl (.tmp 5) (.tmp 6) 60 rfl 21 i1 (.int .i32 0) Try.underlying60 hi1 hz1 w.heap.size rfl (some a) nc rfl ?_)
      go_ret
      exact ⟨_, rfl, BL.out, OE.out⟩
  · have hpos : 0 < l.length := List.length_pos_iff.2 h0
    obtain ⟨b, off, hna, hb⟩ := ints_some hN hpos
    subst hna
    have hnw := ints_news hN BL.out l.length
    rw [List.take_length] at hnw
    have NW := Lib.hid hnw
    have NO := Lib.hid (show ∀ u ∈ (l.map fun z => Value.int .i32 z), u.oneCell' = true from fun u hu => by obtain ⟨n, _, rfl⟩ := List.mem_map.1 hu; rfl)
    have NLn := Lib.hid (show (l.map fun z => Value.int .i32 z).length = l.length * 1 by simp)
    have E1 := Lib.hid (show 0 + l.length ≤ maxLen by unfold maxLen; omega)
    have E2 := Lib.hid (show (0 + l.length) * 4 ≤ 140737488355328 by omega)
    have NE4 := Lib.hid (show ∀ x, (Value.slice (some ⟨w.heap.size, 0, none⟩) 0 0).ownBlock = some x → w.heap.size ≤ x by intro x hx; simp [Value.ownBlock] at hx; omega)
    clear hN h0 hnw
    go_enter Try.func58, Try.ntmps58
    go_wp2_with (at_builtin; refine wpList_append_own _ rfl (.tmp 5) (.tmp 6) 60 rfl w.heap.size 21 i1 (.int .i32 0) 1 4 Try.underlying60 hi1 hz1 hz2 hz3 rfl (by decide) _ 0 [] rfl OE.out ⟨b, off, none⟩ l.length nc (l.map fun z => .int .i32 z) rfl NLn.out NW.out NO.out E1.out E2.out (by simp) ?_; intro v' w6 hown6 hg6 hn6; rw [Nat.zero_add, List.nil_append] at hown6)
    go_ret
    exact ⟨_, rfl, BL.out.grown hg6 BL.out.size NE4.out, hown6⟩
end Go.Proofs.Ytdbfakllcaojcaa

namespace Go.Proofs.Ytdbfakllcaojcaa
open Go Go.RowKit
set_option linter.unusedVariables false
set_option linter.unusedSimpArgs false
set_option maxRecDepth 100000

/-- numbers in a row of their own, or none -/
def OwnN (k : IntKind) (e : TypeId) (w : World) (B : Nat) (a : Option Addr) (l : List Int) (c : Nat) : Prop := (a = none ∧ l = [] ∧ c = 0) ∨ OwnI k e w B a l c
theorem OwnN.ints {k : IntKind} {e : TypeId} {w : World} {B : Nat} {a : Option Addr} {l : List Int} {c : Nat} (h : OwnN k e w B a l c) : IntsIn k w a l c := by
  rcases h with ⟨rfl, rfl, rfl⟩ | h
  · exact ⟨⟨by simp, by omega, by simp, Or.inl ⟨rfl, rfl, rfl⟩⟩, by simp⟩
  · exact h.ints
theorem OwnN.grown {k : IntKind} {e e' : TypeId} {w w' : World} {B g c' n s : Nat} {a : Option Addr} {l : List Int} {c : Nat} {xs : List Value} (h : OwnN k e w B a l c) (ho : w.ownsRow B e' s (.slice (some ⟨g, 0, none⟩) n c') n xs) (he : e' ≠ e) (hg : w.grownBy w' (some g)) : OwnN k e w' B a l c :=
  h.imp id fun h => h.grown ho he hg
theorem OwnN.over {k : IntKind} {e : TypeId} {w w' : World} {B : Nat} {a : Option Addr} {l : List Int} {c : Nat} (h : OwnN k e w B a l c) (hb : Below w.heap.size w w') : OwnN k e w' B a l c := h.imp id fun h => h.over hb
theorem OwnN.kp {k : IntKind} {e : TypeId} {w w' : World} {B B' : Nat} {a : Option Addr} {l : List Int} {c : Nat} (h : OwnN k e w B a l c) (hk : Kp B' w w') (hB : B' ≤ B) : OwnN k e w' B a l c := h.imp id fun h => h.kp hk hB
theorem OwnN.kpx {k : IntKind} {e e' : TypeId} {w w' : World} {B B' b' n' s' g' c' : Nat} {a : Option Addr} {l : List Int} {c : Nat} {xs' : List Value} (h : OwnN k e w B a l c) (h' : w.ownsRow b' e' s' (.slice (some ⟨g', 0, none⟩) n' c') n' xs') (he : e ≠ e') (hk : KpX B' g' w w') (hB : B' ≤ B) : OwnN k e w' B a l c :=
  h.imp id fun h => h.kpx h' he hk hB
/-- a row's value, as a slice -/
theorem own_slice {w : World} {b n s : Nat} {e : TypeId} {v : Value} {xs : List Value} (h : w.ownsRow b e s v n xs) : (v = .slice none 0 0 ∧ n = 0) ∨ ∃ g c, v = .slice (some ⟨g, 0, none⟩) n c := by
  obtain ⟨_, ⟨h1, h2⟩ | ⟨g, c, _, hv, _⟩⟩ := h
  · exact Or.inl ⟨h1, h2⟩
  · exact Or.inr ⟨g, c, hv⟩
/-- what Clone tells of numbers, as a constant keeps it -/
theorem ownN_of {k : IntKind} {e : TypeId} {w w' : World} {B : Nat} {v : Value} {l : List Int} (h : w'.ownsRow w.heap.size e 1 v l.length (l.map fun z => .int k z)) (hw : ∀ z ∈ l, (Lit.int k z).wf = true) (hB : B ≤ w.heap.size) : ∃ a c, v = .slice a l.length c ∧ OwnN k e w' B a l c := by
  rcases own_slice h with ⟨rfl, h0⟩ | ⟨g, c, rfl⟩
  · have hl : l = [] := List.eq_nil_of_length_eq_zero h0
    subst hl
    exact ⟨none, 0, rfl, Or.inl ⟨rfl, rfl, rfl⟩⟩
  · exact ⟨some ⟨g, 0, none⟩, c, rfl, Or.inr ⟨⟨g, rfl, own_base h hB⟩, hw⟩⟩
/-- a constant whose numbers are its own -/
def OwnC (w : World) (B : Nat) (q : CnQ) : Prop := OwnN .i8 73 w B q.ba q.bs q.bc ∧ OwnN .i32 21 w B q.wa q.ws q.wc
theorem OwnC.ok {w : World} {B : Nat} {q : CnQ} (h : OwnC w B q) : q.ok w := ⟨h.1.ints, h.2.ints⟩
theorem OwnC.over {w w' : World} {B : Nat} {q : CnQ} (h : OwnC w B q) (hb : Below w.heap.size w w') : OwnC w' B q := ⟨h.1.over hb, h.2.over hb⟩
theorem OwnC.kp {w w' : World} {B B' : Nat} {q : CnQ} (h : OwnC w B q) (hk : Kp B' w w') (hB : B' ≤ B) : OwnC w' B q := ⟨h.1.kp hk hB, h.2.kp hk hB⟩
theorem OwnC.grown {w w' : World} {B g c' n s : Nat} {e' : TypeId} {xs : List Value} {q : CnQ} (h : OwnC w B q) (ho : w.ownsRow B e' s (.slice (some ⟨g, 0, none⟩) n c') n xs) (h1 : e' ≠ 73) (h2 : e' ≠ 21) (hg : w.grownBy w' (some g)) : OwnC w' B q := ⟨h.1.grown ho h1 hg, h.2.grown ho h2 hg⟩
theorem OwnC.kpx {w w' : World} {B B' b' n' s' g' c' : Nat} {e' : TypeId} {xs' : List Value} {q : CnQ} (h : OwnC w B q) (h' : w.ownsRow b' e' s' (.slice (some ⟨g', 0, none⟩) n' c') n' xs') (h1 : 73 ≠ e') (h2 : 21 ≠ e') (hk : KpX B' g' w w') (hB : B' ≤ B) : OwnC w' B q := ⟨h.1.kpx h' h1 hk hB, h.2.kpx h' h2 hk hB⟩
/-- all constants of a copy -/
theorem cns_ownC {w : World} {B : Nat} {v : Value} {D : List CnQ} (h : w.ownsRow B 62 2 v D.length (cn2 D)) (hq : ∀ q ∈ D, OwnC w B q) : ∃ a c, v = .slice a D.length c ∧ CnsIn w a D c := by
  rcases own_slice h with ⟨rfl, h0⟩ | ⟨g, c, rfl⟩
  · have hl : D = [] := List.eq_nil_of_length_eq_zero h0
    subst hl
    exact ⟨none, 0, rfl, by simp, by omega, by simp, Or.inl ⟨rfl, rfl, rfl⟩⟩
  · obtain ⟨h1, h2, h3, h4, _⟩ := own_lt h
    refine ⟨some ⟨g, 0, none⟩, c, rfl, h3, by unfold maxLen at h4; omega, fun q hm => (hq q hm).ok, Or.inr (Or.inr ⟨g, 0, rfl, h2, fun k q hk => ?_⟩)⟩
    have hkl := (List.getElem?_eq_some_iff.1 hk).1
    obtain ⟨a0, a1⟩ := cn2_at D k q hk
    exact ⟨by rw [Nat.zero_add, h.cellAt _ (by omega), a0], by rw [Nat.zero_add, h.cellAt _ (by omega), a1]⟩
theorem nds_ownN {w : World} {B : Nat} {v : Value} {l : List Nd} (h : w.ownsRow B 57 26 v l.length (nd26 l)) (hw : ∀ n ∈ l, AreInts kN n.cells) : ∃ a c, v = .slice a l.length c ∧ NdsIn w a l c := by
  rcases own_slice h with ⟨rfl, h0⟩ | ⟨g, c, rfl⟩
  · have hl : l = [] := List.eq_nil_of_length_eq_zero h0
    subst hl
    exact ⟨none, 0, rfl, by simp, by omega, by simp, Or.inl ⟨rfl, rfl, rfl⟩⟩
  · exact ⟨some ⟨g, 0, none⟩, c, rfl, nds_own h hw⟩
end Go.Proofs.Ytdbfakllcaojcaa
