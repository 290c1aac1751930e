/- The document's Trace over the document's machine. -/
import Derived.Test.YtidpaijnnkainaaDoorExD
namespace Go.Proofs.YtidpaijnnkainaaDoor
open Go Go.RowKit Go.Shelf Pl
set_option linter.unusedVariables false

theorem ramS_lt (r n2 : Nat) {Rb : List Nat} (h : ∀ x ∈ Rb, x < 256) (a k v : Nat) : ∀ x ∈ ramS r n2 Rb a k v, x < 256 := by
  unfold ramS
  split
  · exact setB_all h (lowB_lt k v)
  · exact h
def BLt (o : MOut) : Prop := ∀ x ∈ o.s.b, x < 256
theorem stepM_lt (f rr : Nat) (Fb : List Nat) (s : MSt) (h : ∀ x ∈ s.b, x < 256) : ∀ x ∈ (stepM f rr Fb s).s.b, x < 256 := by
  have ite : ∀ (c : Prop) [Decidable c] (a b : MOut), BLt a → BLt b → BLt (if c then a else b) := fun c _ a b h g => by split; exact h; exact g
  show BLt _
  unfold stepM
  refine ite _ _ _ h (ite _ _ _ h ?_)
  unfold doM
  repeat' first | exact h | exact ramS_lt _ _ h _ _ _ | apply ite
theorem runE_lt (Fb : List Nat) (n : Nat) (s : MSt) (h : ∀ x ∈ s.b, x < 256) : ∀ x ∈ (runE Fb n s).2.2.b, x < 256 := by
  induction n generalizing s with
  | zero => exact h
  | succ n ih =>
    by_cases g : (stepM 4096 2147483648 Fb s).t = 0
    · rw [runE_go n g]; exact ih _ (stepM_lt _ _ _ _ h)
    · rw [runE_trap1 n g]; exact stepM_lt _ _ _ _ h
/-- the document's machine over its memory -/
structure DocIs (X : Nat) (Fb : List Nat) (s : MSt) (cnt : Nat) (v : Value) (W : World) : Prop where
  rm : MachIs (X + 1) X s.pc s.r W
  rf : ∃ L, RefIs X (X + 3) 4096 Fb.length 2147483648 s.b.length L v W ∧ Agree 4096 2147483648 Fb s.b L ∧ L.length ≤ cnt
  lf : Fb.length = 256
  fF : ∀ x ∈ Fb, x < 256
  ls : s.b.length = 128
  sb : ∀ x ∈ s.b, x < 256
theorem DocIs.own {X : Nat} {Fb : List Nat} {s : MSt} {cnt : Nat} {v : Value} {W : World} (h : DocIs X Fb s cnt v W) (j : Nat) (hj : v.ownBlock = some j) : X + 3 ≤ j ∧ j < W.heap.size := by
  obtain ⟨L, r1, _⟩ := h.rf
  exact r1.own_lt j hj
theorem DocIs.out {X : Nat} {Fb : List Nat} {s : MSt} {cnt : Nat} {v : Value} {S : Nat → Prop} {W W' : World} (h : DocIs X Fb s cnt v W) (ho : Out S W W') (h1 : ¬ S (X + 1)) (h2 : ¬ S X) (h3 : ∀ j, v.ownBlock = some j → ¬ S j) : DocIs X Fb s cnt v W' := by
  obtain ⟨L, r1, r2, r3⟩ := h.rf
  exact { rm := h.rm.out ho h1, rf := ⟨L, r1.out ho h2 h3, r2, r3⟩, lf := h.lf, fF := h.fF, ls := h.ls, sb := h.sb }
theorem DocIs.step {X : Nat} {Fb : List Nat} {s : MSt} {cnt : Nat} {v : Value} {W : World} (h : DocIs X Fb s cnt v W) (hc : cnt + 4 ≤ 1000000) :
    Calls Tryd.prog 30 #[.pointer (some ⟨X + 1, 0, none⟩)] W fun e w' => e = .returned (.tuple #[(stepM 4096 2147483648 Fb s).e.v, .int .i64 (stepM 4096 2147483648 Fb s).t]) ∧ ∃ v', DocIs X Fb (stepM 4096 2147483648 Fb s).s (cnt + 4) v' w' ∧ Fresh v v' W ∧ Out (fun j => j = X + 1 ∨ j = X ∨ v.ownBlock = some j) W w' := by
  have hb : Banks 4096 Fb.length 2147483648 s.b.length := by rw [h.lf, h.ls]; exact banks_map
  obtain ⟨L, r1, r2, r3⟩ := h.rf
  refine (rstep_any h.rm r1 r2 hb h.fF h.sb (by omega) (by omega) (by omega)).mono ?_
  rintro e w' ⟨rfl, L', k1, k2, k3⟩
  obtain ⟨v', m1, m2⟩ := k1.mem
  have hx := stepM_len 4096 2147483648 Fb s
  exact ⟨rfl, v', { rm := k1.mach, rf := ⟨L', by rw [hx]; exact m1, k2, by omega⟩, lf := h.lf, fF := h.fF, ls := by rw [hx]; exact h.ls, sb := stepM_lt _ _ _ _ h.sb }, m2, k1.out⟩
def cellsE : List MEv → List Value
  | [] => []
  | e :: l => .int .u32 (e.p : Nat) :: .int .u32 (e.w : Nat) :: .int .i64 e.k :: .int .u32 (e.a : Nat) :: .int .i64 e.s :: cellsE l
theorem cellsE_append (l m : List MEv) : cellsE (l ++ m) = cellsE l ++ cellsE m := by
  induction l with
  | nil => rfl
  | cons e l ih => simp [cellsE, ih]
theorem info_ev : (Tryd.prog.info? 76).map (fun i => (i.zero, i.size, i.bytes)) = some (some (.agg #[.int .u32 0, .int .u32 0, .int .i64 0, .int .u32 0, .int .i64 0]), 5, 32) := by kernel_rfl
theorem own_emptyE (w : World) : (w.alloc (.cells #[] 76)).ownsRow w.heap.size 76 5 (.slice (some ⟨w.heap.size, 0, none⟩) 0 0) 0 [] :=
  World.ownsRow_lit w #[] 0 (Nat.le_refl _) (by decide) rfl
theorem row_own_lt {W : World} {b t sz n : Nat} {v : Value} {xs : List Value} (h : W.ownsRow b t sz v n xs) (j : Nat) (hj : v.ownBlock = some j) : b ≤ j ∧ j < W.heap.size := by
  rcases h.2 with ⟨rfl, _⟩ | ⟨g, cap, cur, rfl, h1, h2, _⟩
  · cases hj
  · obtain rfl : g = j := Option.some.inj hj
    exact ⟨h1, (Array.getElem?_eq_some_iff.1 h2).1⟩
theorem row_slice {W : World} {b t sz n : Nat} {v : Value} {xs : List Value} (h : W.ownsRow b t sz v n xs) : ∃ a c, v = .slice a n c := by
  rcases h.2 with ⟨rfl, rfl, _⟩ | ⟨g, cap, cur, rfl, _⟩
  · exact ⟨none, 0, rfl⟩
  · exact ⟨_, _, rfl⟩
/-- a slice's length -/
def lenOf : Value → Nat
  | .slice _ n _ => n
  | _ => 0
theorem news_5 (w : World) (p wd : Nat) (k : Int) (a : Nat) (z : Int) (t : TypeId) : ∀ j u, [Value.int .u32 (p : Nat), .int .u32 (wd : Nat), .int .i64 k, .int .u32 (a : Nat), .int .i64 z][j]? = some u → (w.alloc (.cells #[.int .u32 (p : Nat), .int .u32 (wd : Nat), .int .i64 k, .int .u32 (a : Nat), .int .i64 z] t)).cell? ((⟨w.heap.size, 0, none⟩ : Addr).add j) = some u := by
  intro j u hj
  exact World.news_of_block (cs := #[.int .u32 (p : Nat), .int .u32 (wd : Nat), .int .i64 k, .int .u32 (a : Nat), .int .i64 z]) (t := t) (fr := (0, 0)) (heap_alloc_new w _) j u hj
theorem tr_old {A B j : Nat} {P : Prop} {H : Nat} (hj : j < H) (g : j = A ∨ j = B ∨ P ∨ H ≤ j) : j = A ∨ j = B ∨ P := by
  rcases g with g | g | g | g
  · exact .inl g
  · exact .inr (.inl g)
  · exact .inr (.inr g)
  · omega
theorem DocIs.le {X : Nat} {Fb : List Nat} {s : MSt} {cnt cnt' : Nat} {v : Value} {W : World} (h : DocIs X Fb s cnt v W) (hc : cnt ≤ cnt') : DocIs X Fb s cnt' v W := by
  obtain ⟨L, r1, r2, r3⟩ := h.rf
  exact { rm := h.rm, rf := ⟨L, r1, r2, by omega⟩, lf := h.lf, fF := h.fF, ls := h.ls, sb := h.sb }
/-- what is kept between the rounds -/
structure TrAt (W : World) (X : Nat) (Fb : List Nat) (s : MSt) (cnt n : Nat) (v : Value) (m : Nat) (pre : List MEv) (si : MSt) (vo vl : Value) (wr : World) : Prop where
  run : RunAt Fb n s m pre si
  row : wr.ownsRow W.heap.size 76 5 vo m (cellsE pre)
  doc : DocIs X Fb si (cnt + 4 * m) vl wr
  fr : Fresh v vl W
  sep : ∀ j, vo.ownBlock = some j → vl.ownBlock ≠ some j
  out : Out (fun j => j = X + 1 ∨ j = X ∨ v.ownBlock = some j ∨ W.heap.size ≤ j) W wr
/-- a step more, no event yet -/
structure TrMid (W : World) (X : Nat) (Fb : List Nat) (cnt : Nat) (v : Value) (m : Nat) (pre : List MEv) (s2 : MSt) (vo vl : Value) (wr : World) : Prop where
  row : wr.ownsRow W.heap.size 76 5 vo m (cellsE pre)
  doc : DocIs X Fb s2 (cnt + 4 * (m + 1)) vl wr
  fr : Fresh v vl W
  sep : ∀ j, vo.ownBlock = some j → vl.ownBlock ≠ some j
  out : Out (fun j => j = X + 1 ∨ j = X ∨ v.ownBlock = some j ∨ W.heap.size ≤ j) W wr
theorem TrAt.mid {W : World} {X : Nat} {Fb : List Nat} {s : MSt} {cnt n : Nat} {v : Value} {m : Nat} {pre : List MEv} {si : MSt} {vo vl : Value} {wr : World} (h : TrAt W X Fb s cnt n v m pre si vo vl wr) (hX : X + 3 ≤ W.heap.size) {v' : Value} {s2 : MSt} {w2 : World} (hD : DocIs X Fb s2 (cnt + 4 * m + 4) v' w2) (hF : Fresh vl v' wr) (hO : Out (fun j => j = X + 1 ∨ j = X ∨ vl.ownBlock = some j) wr w2) :
    TrMid W X Fb cnt v m pre s2 vo v' w2 where
  row := hO.row h.row fun j hj => by
    have := row_own_lt h.row j hj
    have := h.sep j hj
    rintro (e | e | e)
    · omega
    · omega
    · exact h.sep j hj e
  doc := by rw [show cnt + 4 * (m + 1) = cnt + 4 * m + 4 by omega]; exact hD
  fr := h.fr.trans hF h.out.size
  sep := fun j hj e => by
    rcases hF j e with g | g
    · exact h.sep j hj g
    · have := row_own_lt h.row j hj; omega
  out := h.out.trans (hO.mono fun j hj => by
    rcases hj with e | e | e
    · exact .inl e
    · exact .inr (.inl e)
    · rcases h.fr j e with g | g
      · exact .inr (.inr (.inl g))
      · exact .inr (.inr (.inr g)))
theorem TrMid.below {W : World} {X : Nat} {Fb : List Nat} {cnt : Nat} {v : Value} {m : Nat} {pre : List MEv} {s2 : MSt} {vo vl : Value} {wr w' : World} (h : TrMid W X Fb cnt v m pre s2 vo vl wr) (hb : Below wr.heap.size wr w') : TrMid W X Fb cnt v m pre s2 vo vl w' :=
  ⟨(Out.of_below (fun _ => False) hb).row h.row (fun _ _ => id), h.doc.out (.of_below (fun _ => False) hb) id id (fun _ _ => id), h.fr, h.sep, h.out.trans (.of_below _ (hb))⟩
theorem TrMid.next {W : World} {X : Nat} {Fb : List Nat} {s : MSt} {cnt n : Nat} {v : Value} {m : Nat} {pre : List MEv} {e : MEv} {s2 : MSt} {vo vl : Value} {w3 w5 : World} {g cap : Nat} {cs : Array Value} {t : TypeId} (h : TrMid W X Fb cnt v m pre s2 vo vl w3) (hX : X + 3 ≤ W.heap.size) (hR : RunAt Fb n s (m + 1) (pre ++ [e]) s2)
    (hown : w5.ownsRow W.heap.size 76 5 (.slice (some ⟨g, 0, none⟩) (m + 1) cap) (m + 1) (cellsE pre ++ [.int .u32 (e.p : Nat), .int .u32 (e.w : Nat), .int .i64 e.k, .int .u32 (e.a : Nat), .int .i64 e.s])) (hg : (w3.alloc (.cells cs t)).grownBy w5 vo.ownBlock) (hat : vo.ownBlock = some g ∨ g = w3.heap.size + 1) :
    TrAt W X Fb s cnt n v (m + 1) (pre ++ [e]) s2 (.slice (some ⟨g, 0, none⟩) (m + 1) cap) vl w5 := by
  have b := h.below (show Below w3.heap.size w3 (w3.alloc (.cells cs t)) from (Below.refl _ _).alloc (Nat.le_refl _) _)
  have ho : Out (fun j => vo.ownBlock = some j) (w3.alloc (.cells cs t)) w5 := .of_grown hg fun k hk => hk
  have rl := fun j hj => row_own_lt h.row j hj
  refine ⟨hR, by rw [cellsE_append]; exact hown, b.doc.out ho (fun e => by have := rl _ e; omega) (fun e => by have := rl _ e; omega) (fun j hj e => h.sep j e hj), h.fr, ?_, b.out.trans (ho.mono fun j hj => .inr (.inr (.inr (rl j hj).1)))⟩
  intro j hj e
  obtain rfl : g = j := Option.some.inj hj
  rcases hat with k | k
  · exact h.sep g k e
  · have := h.doc.own g e; omega
set_option maxRecDepth 100000 in
set_option maxHeartbeats 4000000 in
theorem rtrace_any {X : Nat} {Fb : List Nat} {s : MSt} {cnt : Nat} {v : Value} {W : World} (h : DocIs X Fb s cnt v W) (hX : X + 3 ≤ W.heap.size) (fu : Int) (n : Nat) (hfn : fu.toNat = n) (hn : n ≤ 100) (hc : cnt + 4 * n + 4 ≤ 1000000) :
    Calls Tryd.prog 11 #[.pointer (some ⟨X + 1, 0, none⟩), .int .i64 fu] W fun e w' => ∃ a c vl, e = .returned (.tuple #[.slice a (runE Fb n s).1.length c, .int .i64 (runE Fb n s).2.1]) ∧
      w'.ownsRow W.heap.size 76 5 (.slice a (runE Fb n s).1.length c) (runE Fb n s).1.length (cellsE (runE Fb n s).1) ∧ DocIs X Fb (runE Fb n s).2.2 (cnt + 4 * n + 4) vl w' ∧ Out (fun j => j = X + 1 ∨ j = X ∨ v.ownBlock = some j) W w' := by
  obtain ⟨i0, hi, hz0, hz1, hz2⟩ := info_parts info_ev
  have D0 := Lib.hid h
  have T0 := Lib.hid (show TrAt W X Fb s cnt n v 0 [] s (.slice (some ⟨W.heap.size, 0, none⟩) 0 0) v (W.alloc (.cells #[] 76)) from
    ⟨RunAt.start _ _ _, own_emptyE W, h.out (.of_below (fun _ => False) ((Below.refl _ _).alloc (Nat.le_refl _) _)) id id (fun _ _ => id), Fresh.refl _ _, fun j hj e => by have := h.own j e; (obtain rfl : W.heap.size = j := Option.some.inj hj); omega, .of_below _ ((Below.refl _ _).alloc (Nat.le_refl _) _)⟩)
  clear h
  go_enter Tryd.func11, Tryd.ntmps11
  go_wp2_with fail
  go_loopw [6] (fun i wr => ∃ (m : Nat) (pre : List MEv) (si : MSt) (a : Option Addr) (c : Nat) (vl : Value), i = .slice a m c ∧ TrAt W X Fb s cnt n v m pre si (.slice a m c) vl wr) (fun i _ => n - (lenOf i))
  case atStart => exact ⟨0, [], s, _, _, v, rfl, T0.out⟩
  case round =>
    obtain ⟨m, pre, si, a, c, vl, rfl, hT⟩ := hrel
    have TA := Lib.hid hT
    have hm := hT.run.le
    have hl := hT.run.len
    clear hT D0 T0
    by_cases hl0 : (m : Int) < fu
    · have hlt : m < n := by omega
      have ST := Lib.hid (TA.out.doc.step (by omega))
      obtain ⟨o, ho⟩ : ∃ o, stepM 4096 2147483648 Fb si = o := ⟨_, rfl⟩
      have HO := Lib.hid ho
      rw [ho] at ST
      have NX := Lib.hid (fun (g : o.t = 0) => TA.out.run.next hlt (by rw [ho]; exact g))
      have TX := Lib.hid (fun (g : o.t ≠ 0) => TA.out.run.trap hlt (by rw [ho]; exact g))
      rw [ho] at NX TX
      clear ho HO
      obtain ⟨⟨p, wd, k, av, z⟩, t, s2⟩ := o
      simp only [MEv.v] at ST NX TX
      go_wp2_with fail
      refine ST.out.mono ?_
      rintro e w2 ⟨rfl, v', hD2, hF2, hO2⟩
      have M2 := Lib.hid (TA.out.mid hX hD2 hF2 hO2)
      clear ST hD2 hF2 hO2 TA
      go_upto_region 4 with (fail)
      have b3 : Below w2.heap.size w2 (w2.alloc (.cells #[.int .u32 (p : Nat), .int .u32 (wd : Nat), .int .i64 k, .int .u32 (av : Nat), .int .i64 z] 76)) := (Below.refl _ _).alloc (Nat.le_refl _) _
      have E3 := Lib.hid (evAt_of (heap_alloc_new w2 (.cells #[.int .u32 (p : Nat), .int .u32 (wd : Nat), .int .i64 k, .int .u32 (av : Nat), .int .i64 z] 76)))
      have M3 := Lib.hid (M2.out.below b3)
      clear b3 M2
      generalize w2.heap.size = EB at *
      generalize World.alloc _ _ = W3 at *
      by_cases ht : t = 0
      · subst ht
        have e0 := E3.out.c0
        have e1 := E3.out.c1
        have e2 := E3.out.c2
        have e3 := E3.out.c3
        have e4 := E3.out.c4
        have NR := NX.out rfl
        have NRH := Lib.hid NR
        clear TX NX NR
        have LEN := Lib.hid (show m + 1 ≤ maxLen from Nat.le_trans (show m + 1 ≤ 1000 by omega) (by decide))
        have BYT := Lib.hid (show (m + 1) * 32 ≤ 140737488355328 by omega)
        have BAS := Lib.hid (show ∀ (cs : Array Value) (t : TypeId), W.heap.size ≤ (W3.alloc (.cells cs t)).heap.size from fun cs t => by have := M3.out.out.size; simp; omega)
        have OWN := Lib.hid (fun cs t => M3.out.row.alloc (.cells cs t))
        go_wp2_with ((at_builtin; refine wpList_append_lies (W3.alloc (.cells #[.int .u32 (p : Nat), .int .u32 (wd : Nat), .int .i64 k, .int .u32 (av : Nat), .int .i64 z] 76)) rfl (.tmp 23) (.tmp 25) 30 rfl W.heap.size 76 i0 (.agg #[.int .u32 0, .int .u32 0, .int .i64 0, .int .u32 0, .int .i64 0]) 5 32 Tryd.underlying30 hi hz0 hz1 hz2 rfl (by decide) (.slice a m c) m (cellsE pre) rfl (OWN.out _ _) ⟨W3.heap.size, 0, none⟩ 1 1 [.int .u32 (p : Nat), .int .u32 (wd : Nat), .int .i64 k, .int .u32 (av : Nat), .int .i64 z] rfl rfl (news_5 W3 p wd k av z 76) (by simp [Value.oneCell']) (by decide) LEN.out BYT.out (BAS.out _ _) (W3.heap.size + 1) (by simp) ?_; intro g cap w5 hown hg hat hlt2; have M5 := Lib.hid (M3.out.next hX NRH.out hown hg hat); clear hown hg hat hlt2))
        go_roundw
        case rel => exact ⟨m + 1, _, s2, _, _, v', rfl, M5.out⟩
        case measure => show n - (m + 1) < n - m; omega
      · have TR := Lib.hid (TX.out ht)
        clear TX NX
        go_wp2_with fail
        go_ret2
        refine ⟨a, c, v', ?_⟩
        rw [TR.out]
        dsimp only
        rw [hl]
        exact ⟨rfl, M3.out.row, M3.out.doc.le (by omega), M3.out.out.old fun j hj g => tr_old hj g⟩
    · obtain rfl : m = n := by omega
      go_wp2_with fail
      go_ret2
      rw [TA.out.run.done]
      dsimp only
      rw [hl]
      first
        | exact ⟨a, c, vl, rfl, TA.out.row, TA.out.doc.le (by omega), TA.out.out.old fun j hj g => tr_old hj g⟩
        | exact ⟨a, c, rfl, TA.out.row, ⟨vl, TA.out.doc.le (by omega)⟩, TA.out.out.old fun j hj g => tr_old hj g⟩
end Go.Proofs.YtidpaijnnkainaaDoor
