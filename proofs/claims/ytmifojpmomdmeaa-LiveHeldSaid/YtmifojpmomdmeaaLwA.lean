/- live.Lives' contract over lives in a block; what LiveOver says of them. -/
import Derived.Test.YtmifojpmomdmeaaLvS
import Derived.Test.YtmifojpmomdmeaaLvE
import Derived.Test.YtmifojpmomdmeaaLv29
import Derived.Test.YtmifojpmomdmeaaLpA
import Derived.Test.YtmifojpmomdmeaaPkC
namespace Go.Proofs.Ytmifojpmomdmeaa
open Go Go.RowKit Go.Maps
set_option linter.unusedVariables false
set_option linter.unusedSimpArgs false
set_option maxRecDepth 100000

theorem lives_lg (g : GrQ) (over : Bool) (w : World) (hC : CnsIn w g.ca g.C g.cc) (hN : NdsIn w g.na g.ns g.nc) (hn : g.ns.length ≤ 1000) :
    Calls Try.prog 9 #[g.val, .bool over] w fun e w' => Below w.heap.size w w' ∧ ((graphE g.gr).1 ≠ 0 → e = .returned (.tuple #[.slice none 0 0, .int .i64 (graphE g.gr).1])) ∧
      ((graphE g.gr).1 = 0 → ∃ a c, e = .returned (.tuple #[.slice a (lvM g over).L.length c, .int .i64 0]) ∧ c ≤ 9223372036854775807 ∧ LgAt w' a (lgs (lvM g over).lives)) :=
  (lives_any g over w hC hN hn).mono fun e w' ⟨h1, h2, h3⟩ => ⟨h2, h1, fun h => by
    obtain ⟨v, he, ho⟩ := h3 h
    obtain ⟨a, c, rfl, hc, hl⟩ := own_lgs ho
    rw [lives_len] at he
    exact ⟨a, c, he, hc, hl⟩⟩
theorem lgs_at {m : Lv} {i : Nat} {x : Lg} (h : (lgs m.lives)[i]? = some x) : i < m.L.length ∧ x = (m.life i).lg := by
  have hi : i < m.L.length := by have := (List.getElem?_eq_some_iff.1 h).1; rwa [lgs_len, lives_len] at this
  refine ⟨hi, ?_⟩
  rw [lgs, List.getElem?_map, lives_at hi] at h
  simpa using h.symm
theorem over_lg {g : GrQ} (he : (graphE g.gr).1 = 0) : ∀ (i k : Nat) (x y : Lg), k < i → (lgs (lvM g true).lives)[i]? = some x → (lgs (lvM g true).lives)[k]? = some y → x.b = y.b → y.t ≤ x.f ∧ x.s = y.s := by
  intro i k x y hki hx hy hb
  obtain ⟨hi, rfl⟩ := lgs_at hx
  obtain ⟨hk, rfl⟩ := lgs_at hy
  have hn : (lvM g true).L.Nodup := (order_spec (odM_ok he) _ (Nat.le_refl _)).1
  have h := over_core hn (fun i r hi ht hr => take_size he i r hi ht hr) hi hki (show (bufK (lvM g true) i) = bufK (lvM g true) k from by exact_mod_cast (show (((lvM g true).buf i ((lvM g true).freeK i) : Nat) : Int) = ((lvM g true).buf k ((lvM g true).freeK k) : Nat) from hb))
  exact h
theorem atL_lgs {m : Lv} {i : Nat} (h : i < m.L.length) : atL (lgs m.lives) i = (m.life i).lg := by
  refine atL_at ?_
  rw [lgs, List.getElem?_map, lives_at h]
  rfl
theorem lastK_over (g : GrQ) (r : Nat) : ∀ k, (lvM g true).lastK k r = (lvM g false).lastK k r
  | 0 => rfl
  | k + 1 => by
    unfold Lv.lastK
    rw [lastK_over g r k]
    rfl
theorem to_over (g : GrQ) (i : Nat) : (lvM g true).to i = (lvM g false).to i := by
  unfold Lv.to Lv.last
  rw [lastK_over]
  rfl
theorem less_lg {g : GrQ} (he : (graphE g.gr).1 = 0) : peakF (lgs (lvM g true).lives) ≤ peakF (lgs (lvM g false).lives) := by
  have hn : (lvM g false).L.Nodup := (order_spec (odM_ok he) _ (Nat.le_refl _)).1
  have l1 : (lgs (lvM g true).lives).length = (lvM g false).L.length := by rw [lgs_len, lives_len]; rfl
  have l2 : (lgs (lvM g false).lives).length = (lvM g false).L.length := by rw [lgs_len, lives_len]
  refine peak_less (l1.trans l2.symm) (fun i j hi hj hb => ?_) (fun i hi => ?_)
  · rw [l2] at hi hj
    rw [atL_lgs hi, atL_lgs hj] at hb
    have hb2 : (((lvM g false).buf i ((lvM g false).freeK i) : Nat) : Int) = ((lvM g false).buf j ((lvM g false).freeK j) : Nat) := hb
    rw [buf_none rfl, buf_none rfl] at hb2
    exact L_inj hn hi hj (by exact_mod_cast hb2)
  · rw [l1] at hi
    rw [atL_lgs (m := lvM g true) hi, atL_lgs (m := lvM g false) hi]
    exact ⟨rfl, rfl, to_over g i⟩
theorem ins_numsW {w0 w : World} {at0 : Option Addr} {l : List Int} (h : InsAt w0 w at0 l) (hp : ∀ z ∈ l, 0 ≤ z) : NumsAt (fun _ => True) w at0 (l.map Int.toNat) := fun i x hx => by
  obtain ⟨z, hz, rfl⟩ : ∃ z, l[i]? = some z ∧ z.toNat = x := by simpa using hx
  obtain ⟨g, h1, _, h3, h4⟩ := h i z hz
  have := hp z (List.mem_of_getElem? hz)
  exact ⟨g, h1, trivial, h3, by rw [h4]; congr 2; omega⟩
/-- a life's node, and what it reads -/
theorem held_lg {g : GrQ} {over : Bool} (he : (graphE g.gr).1 = 0) (i : Nat) (x : Lg) (hx : (lgs (lvM g over).lives)[i]? = some x) :
    ∃ (j : Nat) (nd : Nd), x.v = ((j + 1 : Nat) : Int) ∧ g.ns[j]? = some nd ∧ x.f = (i : Int) ∧ (i : Int) ≤ x.t ∧ (x.v = g.o → x.t = ((lvM g over).L.length : Int)) ∧ (∀ z ∈ insN nd, 0 ≤ z) ∧
      ∀ (k : Nat) (y : Lg), (lgs (lvM g over).lives)[k]? = some y → ∃ yv : Nat, y.v = (yv : Int) ∧ (yv ∈ (insN nd).map Int.toNat → y.f < (i : Int) ∧ (i : Int) ≤ y.t) := by
  obtain ⟨hi, rfl⟩ := lgs_at hx
  have hm : 1 ≤ (lvM g over).L.getD i 0 ∧ (lvM g over).L.getD i 0 ≤ g.ns.length := (ord_mem he).2 _ (getD_mem hi)
  obtain ⟨nd, hnd⟩ : ∃ n, g.ns[(lvM g over).L.getD i 0 - 1]? = some n := ⟨_, List.getElem?_eq_getElem (by omega)⟩
  refine ⟨(lvM g over).L.getD i 0 - 1, nd, ?_, hnd, rfl, to_ge hi, fun h => ?_, fun z hz => (graph_ahead he _ nd hnd z hz).1, fun k y hy => ?_⟩
  · show ((((lvM g over).L.getD i 0 : Nat)) : Int) = _
    omega
  · have h0 : 0 ≤ g.o := (graph_ins he).2.1
    have h2 : ((((lvM g over).L.getD i 0 : Nat)) : Int) = g.o := h
    exact to_out (m := lvM g over) (show (lvM g over).L.getD i 0 = g.o.toNat by omega)
  · obtain ⟨hk, rfl⟩ := lgs_at hy
    refine ⟨(lvM g over).L.getD k 0, rfl, fun hr => ?_⟩
    have h := held_core (over := over) he hi hk (by rw [show insF g.ns ((ordG g).getD i 0 - 1) = (insN nd).map Int.toNat from insF_at hnd]; exact hr)
    exact ⟨by show ((k : Nat) : Int) < (i : Int); omega, h.2⟩
/-- the cells of one of the lives, later on -/
theorem lg_cells {w W : World} {g off : Nat} {l : List Lg} {i : Nat} {x : Lg} (h : LgAt w (some ⟨g, off, none⟩) l) (hx : l[i]? = some x) (hW : Below w.heap.size w W) :
    g < W.heap.size ∧ W.cell? ⟨g, off + i * 5, none⟩ = some (.int .i64 x.v) ∧ W.cell? ⟨g, off + i * 5 + 1, none⟩ = some (.int .i64 x.b) ∧ W.cell? ⟨g, off + i * 5 + 2, none⟩ = some (.int .i64 x.s) ∧ W.cell? ⟨g, off + i * 5 + 3, none⟩ = some (.int .i64 x.f) ∧ W.cell? ⟨g, off + i * 5 + 4, none⟩ = some (.int .i64 x.t) := by
  obtain ⟨g', off', h0, h1, h2⟩ := (h.later hW) i x hx
  injection h0 with h0; injection h0 with h3 h4; subst h3 h4
  exact ⟨h1, h2⟩
end Go.Proofs.Ytmifojpmomdmeaa
