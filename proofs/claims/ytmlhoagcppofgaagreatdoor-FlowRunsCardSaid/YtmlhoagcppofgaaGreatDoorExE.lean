/- The document's Trace over the document's machine. -/
import Derived.Test.YtmlhoagcppofgaaGreatDoorExD
namespace Go.Proofs.YtmlhoagcppofgaaGreatDoor
open Go Go.RowKit Go.Shelf Pl
set_option linter.unusedVariables false

theorem ramS_lt (r n2 : Nat) {Rb : List Nat} (h : ∀ x ∈ Rb, x < 256) (a k v : Nat) : ∀ x ∈ ramS r n2 Rb a k v, x < 256 := by
  unfold ramS
  split
  · exact setB_all h (lowB_lt k v)
  · exact h
def BLt (o : MOut) : Prop := ∀ x ∈ o.s.b, x < 256
theorem stepM_lt (f rr : Nat) (Fb : List Nat) (s : MSt) (h : ∀ x ∈ s.b, x < 256) : ∀ x ∈ (stepM f rr Fb s).s.b, x < 256 := by
  have ite : ∀ (c : Prop) [Decidable c] (a b : MOut), BLt a → BLt b → BLt (if c then a else b) := fun c _ a b h g => by split; exact h; exact g
  show BLt _
  unfold stepM
  refine ite _ _ _ h (ite _ _ _ h ?_)
  unfold doM
  repeat' first | exact h | exact ramS_lt _ _ h _ _ _ | apply ite
theorem runE_lt (Fb : List Nat) (n : Nat) (s : MSt) (h : ∀ x ∈ s.b, x < 256) : ∀ x ∈ (runE Fb n s).2.2.b, x < 256 := by
  induction n generalizing s with
  | zero => exact h
  | succ n ih =>
    by_cases g : (stepM 4096 2147483648 Fb s).t = 0
    · rw [runE_go n g]; exact ih _ (stepM_lt _ _ _ _ h)
    · rw [runE_trap1 n g]; exact stepM_lt _ _ _ _ h
/-- the document's machine over its memory -/
structure DocIs (X : Nat) (Fb : List Nat) (s : MSt) (cnt : Nat) (v : Value) (W : World) : Prop where
  rm : MachIs (X + 1) X s.pc s.r W
  rf : ∃ L, RefIs X (X + 3) 4096 Fb.length 2147483648 s.b.length L v W ∧ Agree 4096 2147483648 Fb s.b L ∧ L.length ≤ cnt
  lf : Fb.length = 256
  fF : ∀ x ∈ Fb, x < 256
  ls : s.b.length = 128
  sb : ∀ x ∈ s.b, x < 256
theorem DocIs.own {X : Nat} {Fb : List Nat} {s : MSt} {cnt : Nat} {v : Value} {W : World} (h : DocIs X Fb s cnt v W) (j : Nat) (hj : v.ownBlock = some j) : X + 3 ≤ j ∧ j < W.heap.size := by
  obtain ⟨L, r1, _⟩ := h.rf
  exact r1.own_lt j hj
theorem DocIs.out {X : Nat} {Fb : List Nat} {s : MSt} {cnt : Nat} {v : Value} {S : Nat → Prop} {W W' : World} (h : DocIs X Fb s cnt v W) (ho : Out S W W') (h1 : ¬ S (X + 1)) (h2 : ¬ S X) (h3 : ∀ j, v.ownBlock = some j → ¬ S j) : DocIs X Fb s cnt v W' := by
  obtain ⟨L, r1, r2, r3⟩ := h.rf
  exact { rm := h.rm.out ho h1, rf := ⟨L, r1.out ho h2 h3, r2, r3⟩, lf := h.lf, fF := h.fF, ls := h.ls, sb := h.sb }
def cellsE : List MEv → List Value
  | [] => []
  | e :: l => .int .u32 (e.p : Nat) :: .int .u32 (e.w : Nat) :: .int .i64 e.k :: .int .u32 (e.a : Nat) :: .int .i64 e.s :: cellsE l
theorem cellsE_append (l m : List MEv) : cellsE (l ++ m) = cellsE l ++ cellsE m := by
  induction l with
  | nil => rfl
  | cons e l ih => simp [cellsE, ih]
theorem info_ev : (Tryz.prog.info? 39).map (fun i => (i.zero, i.size, i.bytes)) = some (some (.agg #[.int .u32 0, .int .u32 0, .int .i64 0, .int .u32 0, .int .i64 0]), 5, 32) := by kernel_rfl
theorem own_emptyE (w : World) : (w.alloc (.cells #[] 39)).ownsRow w.heap.size 39 5 (.slice (some ⟨w.heap.size, 0, none⟩) 0 0) 0 [] :=
  World.ownsRow_lit w #[] 0 (Nat.le_refl _) (by decide) rfl
theorem row_own_lt {W : World} {b t sz n : Nat} {v : Value} {xs : List Value} (h : W.ownsRow b t sz v n xs) (j : Nat) (hj : v.ownBlock = some j) : b ≤ j ∧ j < W.heap.size := by
  rcases h.2 with ⟨rfl, _⟩ | ⟨g, cap, cur, rfl, h1, h2, _⟩
  · cases hj
  · obtain rfl : g = j := Option.some.inj hj
    exact ⟨h1, (Array.getElem?_eq_some_iff.1 h2).1⟩
theorem row_slice {W : World} {b t sz n : Nat} {v : Value} {xs : List Value} (h : W.ownsRow b t sz v n xs) : ∃ a c, v = .slice a n c := by
  rcases h.2 with ⟨rfl, rfl, _⟩ | ⟨g, cap, cur, rfl, _⟩
  · exact ⟨none, 0, rfl⟩
  · exact ⟨_, _, rfl⟩
/-- a slice's length -/
def lenOf : Value → Nat
  | .slice _ n _ => n
  | _ => 0
theorem news_5 (w : World) (p wd : Nat) (k : Int) (a : Nat) (z : Int) (t : TypeId) : ∀ j u, [Value.int .u32 (p : Nat), .int .u32 (wd : Nat), .int .i64 k, .int .u32 (a : Nat), .int .i64 z][j]? = some u → (w.alloc (.cells #[.int .u32 (p : Nat), .int .u32 (wd : Nat), .int .i64 k, .int .u32 (a : Nat), .int .i64 z] t)).cell? ((⟨w.heap.size, 0, none⟩ : Addr).add j) = some u := by
  intro j u hj
  exact World.news_of_block (cs := #[.int .u32 (p : Nat), .int .u32 (wd : Nat), .int .i64 k, .int .u32 (a : Nat), .int .i64 z]) (t := t) (fr := (0, 0)) (heap_alloc_new w _) j u hj
theorem tr_old {A B j : Nat} {P : Prop} {H : Nat} (hj : j < H) (g : j = A ∨ j = B ∨ P ∨ H ≤ j) : j = A ∨ j = B ∨ P := by
  rcases g with g | g | g | g
  · exact .inl g
  · exact .inr (.inl g)
  · exact .inr (.inr g)
  · omega
theorem DocIs.le {X : Nat} {Fb : List Nat} {s : MSt} {cnt cnt' : Nat} {v : Value} {W : World} (h : DocIs X Fb s cnt v W) (hc : cnt ≤ cnt') : DocIs X Fb s cnt' v W := by
  obtain ⟨L, r1, r2, r3⟩ := h.rf
  exact { rm := h.rm, rf := ⟨L, r1, r2, by omega⟩, lf := h.lf, fF := h.fF, ls := h.ls, sb := h.sb }
/-- what is kept between the rounds -/
structure TrAt (W : World) (X : Nat) (Fb : List Nat) (s : MSt) (cnt n : Nat) (v : Value) (m : Nat) (pre : List MEv) (si : MSt) (vo vl : Value) (wr : World) : Prop where
  run : RunAt Fb n s m pre si
  row : wr.ownsRow W.heap.size 39 5 vo m (cellsE pre)
  doc : DocIs X Fb si (cnt + 4 * m) vl wr
  fr : Fresh v vl W
  sep : ∀ j, vo.ownBlock = some j → vl.ownBlock ≠ some j
  out : Out (fun j => j = X + 1 ∨ j = X ∨ v.ownBlock = some j ∨ W.heap.size ≤ j) W wr
/-- a step more, no event yet -/
structure TrMid (W : World) (X : Nat) (Fb : List Nat) (cnt : Nat) (v : Value) (m : Nat) (pre : List MEv) (s2 : MSt) (vo vl : Value) (wr : World) : Prop where
  row : wr.ownsRow W.heap.size 39 5 vo m (cellsE pre)
  doc : DocIs X Fb s2 (cnt + 4 * (m + 1)) vl wr
  fr : Fresh v vl W
  sep : ∀ j, vo.ownBlock = some j → vl.ownBlock ≠ some j
  out : Out (fun j => j = X + 1 ∨ j = X ∨ v.ownBlock = some j ∨ W.heap.size ≤ j) W wr
theorem TrAt.mid {W : World} {X : Nat} {Fb : List Nat} {s : MSt} {cnt n : Nat} {v : Value} {m : Nat} {pre : List MEv} {si : MSt} {vo vl : Value} {wr : World} (h : TrAt W X Fb s cnt n v m pre si vo vl wr) (hX : X + 3 ≤ W.heap.size) {v' : Value} {s2 : MSt} {w2 : World} (hD : DocIs X Fb s2 (cnt + 4 * m + 4) v' w2) (hF : Fresh vl v' wr) (hO : Out (fun j => j = X + 1 ∨ j = X ∨ vl.ownBlock = some j) wr w2) :
    TrMid W X Fb cnt v m pre s2 vo v' w2 where
  row := hO.row h.row fun j hj => by
    have := row_own_lt h.row j hj
    have := h.sep j hj
    rintro (e | e | e)
    · omega
    · omega
    · exact h.sep j hj e
  doc := by rw [show cnt + 4 * (m + 1) = cnt + 4 * m + 4 by omega]; exact hD
  fr := h.fr.trans hF h.out.size
  sep := fun j hj e => by
    rcases hF j e with g | g
    · exact h.sep j hj g
    · have := row_own_lt h.row j hj; omega
  out := h.out.trans (hO.mono fun j hj => by
    rcases hj with e | e | e
    · exact .inl e
    · exact .inr (.inl e)
    · rcases h.fr j e with g | g
      · exact .inr (.inr (.inl g))
      · exact .inr (.inr (.inr g)))
theorem TrMid.below {W : World} {X : Nat} {Fb : List Nat} {cnt : Nat} {v : Value} {m : Nat} {pre : List MEv} {s2 : MSt} {vo vl : Value} {wr w' : World} (h : TrMid W X Fb cnt v m pre s2 vo vl wr) (hb : Below wr.heap.size wr w') : TrMid W X Fb cnt v m pre s2 vo vl w' :=
  ⟨(Out.of_below (fun _ => False) hb).row h.row (fun _ _ => id), h.doc.out (.of_below (fun _ => False) hb) id id (fun _ _ => id), h.fr, h.sep, h.out.trans (.of_below _ (hb))⟩
theorem TrMid.next {W : World} {X : Nat} {Fb : List Nat} {s : MSt} {cnt n : Nat} {v : Value} {m : Nat} {pre : List MEv} {e : MEv} {s2 : MSt} {vo vl : Value} {w3 w5 : World} {g cap : Nat} {cs : Array Value} {t : TypeId} (h : TrMid W X Fb cnt v m pre s2 vo vl w3) (hX : X + 3 ≤ W.heap.size) (hR : RunAt Fb n s (m + 1) (pre ++ [e]) s2)
    (hown : w5.ownsRow W.heap.size 39 5 (.slice (some ⟨g, 0, none⟩) (m + 1) cap) (m + 1) (cellsE pre ++ [.int .u32 (e.p : Nat), .int .u32 (e.w : Nat), .int .i64 e.k, .int .u32 (e.a : Nat), .int .i64 e.s])) (hg : (w3.alloc (.cells cs t)).grownBy w5 vo.ownBlock) (hat : vo.ownBlock = some g ∨ g = w3.heap.size + 1) :
    TrAt W X Fb s cnt n v (m + 1) (pre ++ [e]) s2 (.slice (some ⟨g, 0, none⟩) (m + 1) cap) vl w5 := by
  have b := h.below (show Below w3.heap.size w3 (w3.alloc (.cells cs t)) from (Below.refl _ _).alloc (Nat.le_refl _) _)
  have ho : Out (fun j => vo.ownBlock = some j) (w3.alloc (.cells cs t)) w5 := .of_grown hg fun k hk => hk
  have rl := fun j hj => row_own_lt h.row j hj
  refine ⟨hR, by rw [cellsE_append]; exact hown, b.doc.out ho (fun e => by have := rl _ e; omega) (fun e => by have := rl _ e; omega) (fun j hj e => h.sep j e hj), h.fr, ?_, b.out.trans (ho.mono fun j hj => .inr (.inr (.inr (rl j hj).1)))⟩
  intro j hj e
  obtain rfl : g = j := Option.some.inj hj
  rcases hat with k | k
  · exact h.sep g k e
  · have := h.doc.own g e; omega
end Go.Proofs.YtmlhoagcppofgaaGreatDoor
