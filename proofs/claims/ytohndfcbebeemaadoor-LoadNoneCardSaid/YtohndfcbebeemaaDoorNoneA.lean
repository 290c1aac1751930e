/- Layer 10: the machine of one image, by the runner; Input and Output of no machine; Input of that machine. -/
import Derived.Test.YtohndfcbebeemaaDoorDoor
import Derived.WalkSpells
import Derived.WalkSmall
import Derived.Handy
import Derived.Lib.Hide
import Derived.BigQuiet
import Derived.StillTailTactics
import Derived.OwnWalk
import Derived.Great.Walk
namespace Go.Proofs.YtohndfcbebeemaaDoor
open Go Go.RowKit
set_option linter.unusedVariables false
theorem out_none (m : Value) (w : World) :
    Calls Tryd.prog 18 #[.pointer none, m] w fun e w' => e = .returned (.tuple #[.slice none 0 0, .int .i64 1]) ∧ Below w.heap.size w w' := by
  go_enter Tryd.func18, Tryd.ntmps18
  go_wp2
  all_goals go_ret2
  all_goals exact ⟨rfl, by go_grown⟩
theorem in_none (m x : Value) (w : World) :
    Calls Tryd.prog 21 #[.pointer none, m, x] w fun e w' => e = .returned (.int .i64 1) ∧ Below w.heap.size w w' := by
  go_enter Tryd.func21, Tryd.ntmps21
  go_wp2
  all_goals go_ret
  all_goals exact ⟨rfl, by go_grown⟩
theorem lives10 (w : World) (ht : T3 w) : Calls Tryd.prog 22 #[] w fun e w' => e = .returned (.bool true) ∧ Below w.heap.size w w' :=
  calls_tab names_ok mixed_ok (g := 1) (k := .u32) (t := 25) (l := threeL) (n := 60) (args := []) (by kernel_rfl) (by kernel_rfl) rfl rfl w ht.2 ht.1

noncomputable def oneRun : Option (Value × Hp) := aFun Tryd.prog (1 + 1) 60 20 [] (tabHp 1 .u32 25 threeL)
/-- the image stands for the runner's -/
def Ready (w w1 : World) (v1 : Value) : Prop := ∃ V H β, oneRun = some (V, H) ∧ RV β V v1 ∧ HS (1 + 1) w β H w1
theorem one_any (w : World) (ht : T3 w) : Calls Tryd.prog 20 #[] w fun e w1 => ∃ v1, e = .returned v1 ∧ Ready w w1 v1 := by
  have hs : oneRun.isSome = true := by kernel_rfl
  obtain ⟨⟨V, H⟩, h⟩ := Option.isSome_iff_exists.1 hs
  refine (aFun_ok names_ok mixed_ok 60 _ [] [] _ _ w V H h (by kernel_rfl) .nil (HS.tab _ .u32 25 threeL w ht.2 ht.1)).mono ?_
  rintro e w' ⟨v', β', rfl, _, h2, h3⟩
  exact ⟨v', rfl, V, H, β', h, h2, h3⟩
def mark : Option Nat → Int
  | none => 0
  | some _ => 1
def opns : Bool → Int
  | true => 1
  | false => 0
noncomputable def seesMem (H : Hp) (i j : Nat) (e : Int) : Option (Nat × Nat × Nat × Nat × List Int) :=
  match H.get j with
  | .live q => match q.cells with
    | [.int .u32 f, .int .u32 n1, .int .u32 r, .int .u32 n2, .slice (some ⟨a, 0, xa⟩) na ca, .slice (some ⟨b, 0, xb⟩) nb cb] => match H.get a with
      | .live ka => match H.get b with
        | .live kb => some (i, j, a, b, [e, f, n1, r, n2, na, ca, nb, cb, ka.cells.length, kb.cells.length, ka.elem, kb.elem, mark xa, mark xb, opns ka.opn, opns kb.opn])
        | _ => none
      | _ => none
    | _ => none
  | _ => none
noncomputable def seesC (r : Option (Value × Hp)) : Option (Nat × Nat × Nat × Nat × List Int) :=
  match r with
  | some (.tuple ⟨[.pointer (some ⟨i, 0, none⟩), .int .i64 e]⟩, H) => match H.get i with
    | .live k => match k.cells with
      | .pointer (some ⟨j, 0, none⟩) :: _ => seesMem H i j e
      | _ => none
    | _ => none
  | _ => none
noncomputable def loadRun : Option (Value × Hp) := match oneRun with
  | some (V, H) => aFun Tryd.prog (1 + 1) 60 19 [V] H
  | none => none
def own4 (i j a b : Nat) : Bool := Nat.blt 1 i && Nat.blt 1 j && Nat.blt 1 a && Nat.blt 1 b
noncomputable def loadSees : Option (List Int × Bool) := match seesC loadRun with
  | some (i, j, a, b, l) => some (l, own4 i j a b)
  | none => none
theorem load_sees : loadSees = some ([0, 4096, 64, 8192, 64, 64, 64, 64, 64, 64, 64, 5, 5, 0, 0, 0, 0], true) := by kernel_rfl
theorem seesMem_inv {H : Hp} {i j : Nat} {e : Int} {x : Nat × Nat × Nat × Nat × List Int} (h : seesMem H i j e = some x) : ∃ q f n1 r n2 a xa na ca b xb nb cb ka kb, H.get j = .live q ∧
    q.cells = [.int .u32 f, .int .u32 n1, .int .u32 r, .int .u32 n2, .slice (some ⟨a, 0, xa⟩) na ca, .slice (some ⟨b, 0, xb⟩) nb cb] ∧ H.get a = .live ka ∧ H.get b = .live kb ∧
    x = (i, j, a, b, [e, f, n1, r, n2, na, ca, nb, cb, ka.cells.length, kb.cells.length, ka.elem, kb.elem, mark xa, mark xb, opns ka.opn, opns kb.opn]) := by
  unfold seesMem at h
  split at h
  · rename_i q hq
    split at h
    · rename_i f n1 r n2 a xa na ca b xb nb cb hc
      split at h
      · rename_i ka ha
        split at h
        · rename_i kb hb
          cases h
          exact ⟨q, f, n1, r, n2, a, xa, na, ca, b, xb, nb, cb, ka, kb, hq, hc, ha, hb, rfl⟩
        · cases h
      · cases h
    · cases h
  · cases h
theorem seesC_inv {r : Option (Value × Hp)} {x : Nat × Nat × Nat × Nat × List Int} (h : seesC r = some x) : ∃ i j e H k rest, r = some (.tuple #[.pointer (some ⟨i, 0, none⟩), .int .i64 e], H) ∧ H.get i = .live k ∧
    k.cells = .pointer (some ⟨j, 0, none⟩) :: rest ∧ seesMem H i j e = some x := by
  unfold seesC at h
  split at h
  · rename_i i e H
    split at h
    · rename_i k hk
      split at h
      · rename_i j rest hc
        exact ⟨i, j, e, H, k, rest, rfl, hk, hc, h⟩
      · cases h
    · cases h
  · cases h
theorem mark_none {x : Option Nat} (h : mark x = 0) : x = none := by cases x <;> simp_all [mark]
theorem opns_no {x : Bool} (h : opns x = 0) : x = false := by cases x <;> simp_all [opns]

/-- the machine of the one image -/
structure Loaded (w W : World) (C M F R : Nat) : Prop where
  c : W.cell? ⟨C, 0, none⟩ = some (.pointer (some ⟨M, 0, none⟩))
  m0 : W.cell? ⟨M, 0, none⟩ = some (.int .u32 4096)
  m2 : W.cell? ⟨M, 2, none⟩ = some (.int .u32 8192)
  m4 : W.cell? ⟨M, 4, none⟩ = some (.slice (some ⟨F, 0, none⟩) 64 64)
  m5 : W.cell? ⟨M, 5, none⟩ = some (.slice (some ⟨R, 0, none⟩) 64 64)
  f : ∃ cs, W.heap[F]? = some (.cells cs 5 (0, 0)) ∧ 64 ≤ cs.size
  r : ∃ cs, W.heap[R]? = some (.cells cs 5 (0, 0)) ∧ 64 ≤ cs.size
  lf : w.heap.size ≤ F
  lr : w.heap.size ≤ R
  below : Below w.heap.size w W
theorem load_any (w w1 : World) (v1 : Value) (h : Ready w w1 v1) :
    Calls Tryd.prog 19 #[v1] w1 fun e w' => ∃ C M F R, e = .returned (.tuple #[.pointer (some ⟨C, 0, none⟩), .int .i64 0]) ∧ Loaded w w' C M F R := by
  obtain ⟨V, H, β, h1, h2, h3⟩ := h
  have hs := load_sees
  unfold loadSees at hs
  split at hs
  · rename_i i j a b l hx
    obtain ⟨i', j', e, H2, k, rest, hr, hk, hkc, hm⟩ := seesC_inv hx
    obtain ⟨q, f, n1, r, n2, a', xa, na, ca, b', xb, nb, cb, ka, kb, hq, hqc, ha, hb, hX⟩ := seesMem_inv hm
    simp only [Prod.mk.injEq] at hX
    obtain ⟨rfl, rfl, rfl, rfl, rfl⟩ := hX
    simp only [Option.some.injEq, Prod.mk.injEq, List.cons.injEq, and_true] at hs
    obtain ⟨⟨rfl, rfl, rfl, rfl, rfl, e1, e2, e3, e4, e5, e6, e7, e8, e9, e10, e11, e12⟩, e13⟩ := hs
    have hrun : aFun Tryd.prog (1 + 1) 60 19 [V] H = some (.tuple #[.pointer (some ⟨i, 0, none⟩), .int .i64 0], H2) := by
      have hr' := hr
      unfold loadRun at hr'
      rw [h1] at hr'
      exact hr'
    simp only [own4, Bool.and_eq_true] at e13
    obtain ⟨⟨⟨f1, f2⟩, f3⟩, f4⟩ := e13
    have f3' := blt_true.1 f3
    have f4' := blt_true.1 f4
    obtain rfl : na = 64 := by omega
    obtain rfl : ca = 64 := by omega
    obtain rfl : nb = 64 := by omega
    obtain rfl : cb = 64 := by omega
    obtain rfl := mark_none e9
    obtain rfl := mark_none e10
    have o1 := opns_no e11
    have o2 := opns_no e12
    refine (aFun_ok names_ok mixed_ok 60 _ [V] [v1] β H w1 _ H2 hrun (by kernel_rfl) (.cons h2 .nil) h3).mono ?_
    rintro e w' ⟨v', β', rfl, _, k2, k3⟩
    obtain ⟨l', hl, rfl⟩ := k2.tup_inv
    cases hl with | cons h4 hl =>
    cases hl with | cons h5 hl =>
    cases hl
    obtain ⟨C, xC, hC, rfl⟩ := (RV.one h4).ptr_inv
    obtain rfl := h5.eq_flat rfl
    obtain ⟨C', xC', hC', gC⟩ := k3.rd i k hk
    rw [hC] at hC'; cases hC'
    obtain ⟨vM, cM, rM⟩ := gC 0 _ (by rw [hkc]; rfl)
    obtain ⟨M, xM, hM, rfl⟩ := (RV.one (.base rM)).ptr_inv
    obtain ⟨M', xM', hM', gM⟩ := k3.rd j q hq
    rw [hM] at hM'; cases hM'
    obtain ⟨v0, c0, r0⟩ := gM 0 _ (by rw [hqc]; rfl)
    obtain ⟨v2, c2, r2⟩ := gM 2 _ (by rw [hqc]; rfl)
    obtain ⟨v4, c4, r4⟩ := gM 4 _ (by rw [hqc]; rfl)
    obtain ⟨v5, c5, r5⟩ := gM 5 _ (by rw [hqc]; rfl)
    obtain rfl := r0.eq_flat rfl
    obtain rfl := r2.eq_flat rfl
    obtain ⟨F, xF, hF, rfl⟩ := (RV.one (.base r4)).slc_inv
    obtain ⟨R, xR, hR, rfl⟩ := (RV.one (.base r5)).slc_inv
    obtain ⟨F', xF', cF, hF', gF, aF, sF, oF, _⟩ := k3.blk a ka f3' ha
    rw [hF] at hF'; cases hF'
    obtain ⟨R', xR', cR, hR', gR, aR, sR, oR, _⟩ := k3.blk b kb f4' hb
    rw [hR] at hR'; cases hR'
    obtain rfl := oF o1
    obtain rfl := oR o2
    have t1 : ka.elem = 5 := Int.ofNat.inj e7
    have t2 : kb.elem = 5 := Int.ofNat.inj e8
    rw [t1] at gF
    rw [t2] at gR
    exact ⟨C, M, F, R, rfl, cM, c0, c2, c4, c5, ⟨cF, gF, by omega⟩, ⟨cR, gR, by omega⟩, k3.own a F 0 f3' hF, k3.own b R 0 f4' hR, k3.below⟩
  · cases hs

/-- a part of bytes that begin at base -/
theorem part_yes (B n base a k : Nat) (w : World) (h0 : 0 < k) (h1 : base ≤ a) (h2 : k ≤ n) (h3 : a - base ≤ n - k) (ha : a < 4294967296) (hn : n ≤ 1048576) :
    Calls Tryd.prog 74 #[.slice (some ⟨B, 0, none⟩) n n, .int .u32 (base : Int), .int .u32 (a : Int), .int .i64 (k : Int)] w fun e w' => e = .returned (.tuple #[.slice (some ⟨B, a - base, none⟩) k (n - (a - base)), .bool true]) ∧ w = w' := by
  obtain ⟨q, rfl⟩ : ∃ q, a = base + q := ⟨a - base, by omega⟩
  rw [Nat.add_sub_cancel_left] at h3 ⊢
  have t1 : decide ((base + q : Nat) < base) = false := by simp
  have t2 : decide (n < k) = false := by simp; omega
  have hq : q < n := by omega
  have hq2 : n ≠ q := by omega
  go_enter Tryd.func74, Tryd.ntmps74
  go_wp2
  go_ret2
  refine ⟨?_, rfl⟩
  show Ending.returned (.tuple #[.slice (some ⟨B, base + q - base, none⟩) (base + q - base + k - (base + q - base)) (n - (base + q - base)), .bool true]) = _
  rw [show base + q - base = q by omega, show q + k - q = k by omega]
theorem part_less (B n base a k : Nat) (w : World) (h1 : a < base) (ha : base < 4294967296) :
    Calls Tryd.prog 74 #[.slice (some ⟨B, 0, none⟩) n n, .int .u32 (base : Int), .int .u32 (a : Int), .int .i64 (k : Int)] w fun e w' => e = .returned (.tuple #[.slice none 0 0, .bool false]) ∧ w = w' := by
  have t1 : decide (a < base) = true := by simp; omega
  go_enter Tryd.func74, Tryd.ntmps74
  go_wp2
  all_goals go_ret2
  all_goals exact ⟨rfl, rfl⟩
theorem part_more (B n base a k : Nat) (w : World) (h1 : base ≤ a) (h2 : k ≤ n) (h3 : n - k < a - base) (ha : a < 4294967296) (hn : n ≤ 1048576) :
    Calls Tryd.prog 74 #[.slice (some ⟨B, 0, none⟩) n n, .int .u32 (base : Int), .int .u32 (a : Int), .int .i64 (k : Int)] w fun e w' => e = .returned (.tuple #[.slice none 0 0, .bool false]) ∧ w = w' := by
  obtain ⟨q, rfl⟩ : ∃ q, a = base + q := ⟨a - base, by omega⟩
  rw [Nat.add_sub_cancel_left] at h3
  have t1 : decide ((base + q : Nat) < base) = false := by simp
  have t2 : decide (n < k) = false := by simp; omega
  go_enter Tryd.func74, Tryd.ntmps74
  go_wp2
  all_goals go_ret2
  all_goals exact ⟨rfl, rfl⟩

def memV (f : Int) (n1 : Nat) (r : Int) (n2 F R : Nat) : Array Value := #[.int .u32 f, .int .u32 (n1 : Nat), .int .u32 r, .int .u32 (n2 : Nat), .slice (some ⟨F, 0, none⟩) n1 n1, .slice (some ⟨R, 0, none⟩) n2 n2]
theorem part_q {args : Array Value} {v : Value} {w : World} {m : Nat} (h : ∀ W, Calls Tryd.prog 74 args W fun e w' => e = .returned v ∧ W = w') :
    Calls Tryd.prog 74 args (w.drewN m) fun e w' => e = .returned v ∧ ∃ j, w' = w.drewN j :=
  (h _).mono fun e w' ⟨he, hm⟩ => ⟨he, m, hm.symm⟩

end Go.Proofs.YtohndfcbebeemaaDoor
