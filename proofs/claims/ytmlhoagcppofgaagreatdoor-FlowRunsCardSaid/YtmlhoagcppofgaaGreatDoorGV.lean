/- Both machines of layer 6 side by side. -/
import Derived.Test.YtmlhoagcppofgaaGreatDoorGU
import Derived.Test.YtmlhoagcppofgaaGreatDoorGL
import Derived.Test.YtmlhoagcppofgaaGreatDoorGK
import Derived.Test.YtmlhoagcppofgaaGreatDoorGI
import Derived.Test.YtmlhoagcppofgaaGreatDoorGN
import Derived.OwnWalk
import Derived.WideShapes
import Derived.ChangeSlices
import Derived.OpenShut
namespace Go.Proofs.YtmlhoagcppofgaaGreatDoor
open Go Go.RowKit Pl
set_option linter.unusedVariables false

theorem banks_map : Banks 4096 256 2147483648 128 := ⟨by omega, by omega, by omega, by omega, by omega⟩
theorem ramS_len (r : Nat) (Rb : List Nat) (a k x : Nat) : (ramS r Rb.length Rb a k x).length = Rb.length := ramS_length r Rb a k x
def BL (n : Nat) (o : MOut) : Prop := o.s.b.length = n
theorem doM_len (f rr : Nat) (Fb : List Nat) (s : MSt) (q : Q5) (p w : Nat) : (doM f rr Fb s q p w).s.b.length = s.b.length := by
  have ite : ∀ (c : Prop) [Decidable c] (a b : MOut), BL s.b.length a → BL s.b.length b → BL s.b.length (if c then a else b) := fun c _ a b h g => by split; exact h; exact g
  show BL s.b.length _
  unfold doM
  repeat' first | exact (rfl : s.b.length = s.b.length) | exact ramS_len _ _ _ _ _ | apply ite
theorem stepM_len (f rr : Nat) (Fb : List Nat) (s : MSt) : (stepM f rr Fb s).s.b.length = s.b.length := by
  unfold stepM
  split
  · rfl
  split
  · rfl
  · exact doM_len _ _ _ _ _ _ _
/-- the machines' blocks: the memory's, then the document's memory X, its machine X + 1, the machine X + 2; new ones from X + 3 on -/
structure Far (lo M F R X : Nat) : Prop where
  m : lo ≤ M ∧ M < X
  f : lo ≤ F ∧ F < X
  r : lo ≤ R ∧ R < X
  mf : M ≠ F
  mr : M ≠ R
  fr : F ≠ R
def SD (M F R X : Nat) (j : Nat) : Prop := j = M ∨ j = F ∨ j = R ∨ X ≤ j
structure Duo (w : World) (M F R X : Nat) (Fb : List Nat) (s s' : MSt) (cnt : Nat) (W : World) : Prop where
  mach : MachIs (X + 2) M s.pc s.r W
  mem : MemIs M F R 4096 2147483648 Fb s.b W
  rm : MachIs (X + 1) X s'.pc s'.r W
  rf : ∃ L v, RefIs X (X + 3) 4096 Fb.length 2147483648 s'.b.length L v W ∧ Agree 4096 2147483648 Fb s'.b L ∧ L.length ≤ cnt
  lf : Fb.length = 256
  ls : s.b.length = 128
  ls' : s'.b.length = 128
  sb' : ∀ x ∈ s'.b, x < 256
  far : Far w.heap.size M F R X
  bl : Below w.heap.size w W
theorem SD.below {w W W' : World} {M F R X : Nat} (far : Far w.heap.size M F R X) (bl : Below w.heap.size w W) (ho : Out (SD M F R X) W W') : Below w.heap.size w W' :=
  ho.below bl (Nat.le_refl _) fun j hj => by
    have := far.m; have := far.f; have := far.r
    rcases hj with e | e | e | e <;> omega
theorem Duo.cstep {w : World} {M F R X : Nat} {Fb : List Nat} {s s' : MSt} {cnt : Nat} {W : World} (h : Duo w M F R X Fb s s' cnt W) (ht : T3 w) :
    Calls Tryz.prog 35 #[.pointer (some ⟨X + 2, 0, none⟩)] W fun e w' => e = .returned (.tuple #[(stepM 4096 2147483648 Fb s).e.v, .int .i64 (stepM 4096 2147483648 Fb s).t]) ∧ Duo w M F R X Fb (stepM 4096 2147483648 Fb s).s s' cnt w' ∧ Out (SD M F R X) W w' := by
  have fm := h.far.m; have ff := h.far.f; have fr := h.far.r
  have hb : Banks 4096 Fb.length 2147483648 s.b.length := by rw [h.lf, h.ls]; exact banks_map
  refine (step_any h.mach h.mem hb (by omega) (ht.later h.bl)).mono ?_
  rintro e w' ⟨rfl, k1, k2, k3⟩
  obtain ⟨L, v, r1, r2, r3⟩ := h.rf
  have o : Out (SD M F R X) W w' := k3.mono fun j hj => by rcases hj with e | e; exact .inr (.inr (.inr (by omega))); exact .inr (.inr (.inl e))
  refine ⟨rfl, { mach := k1, mem := k2, rm := h.rm.out k3 (by omega), rf := ⟨L, v, r1.out k3 (by omega) (fun j hj => by have := (r1.own_lt j hj).1; omega), r2, r3⟩, lf := h.lf, ls := by rw [stepM_len]; exact h.ls, ls' := h.ls', sb' := h.sb', far := h.far, bl := SD.below h.far h.bl o }, o⟩
theorem Duo.below {w : World} {M F R X : Nat} {Fb : List Nat} {s s' : MSt} {cnt : Nat} {W W' : World} (h : Duo w M F R X Fb s s' cnt W) (hb : Below W.heap.size W W') : Duo w M F R X Fb s s' cnt W' := by
  obtain ⟨L, v, r1, r2, r3⟩ := h.rf
  exact { mach := h.mach.below hb, mem := h.mem.out (.of_below (fun _ => False) hb) id id id, rm := h.rm.below hb, rf := ⟨L, v, r1.out (.of_below (fun _ => False) hb) id (fun _ _ => id), r2, r3⟩, lf := h.lf, ls := h.ls, ls' := h.ls', sb' := h.sb', far := h.far, bl := h.bl.trans (hb.mono h.bl.size) }
theorem Duo.like {w : World} {M F R X : Nat} {Fb : List Nat} {s s' : MSt} {cnt : Nat} {W W' : World} (h : Duo w M F R X Fb s s' cnt W) (hl : LikeG W W') : Duo w M F R X Fb s s' cnt W' := h.below hl.below
theorem Duo.xlt {w : World} {M F R X : Nat} {Fb : List Nat} {s s' : MSt} {cnt : Nat} {W : World} (h : Duo w M F R X Fb s s' cnt W) : X + 3 ≤ W.heap.size := h.mach.lt
end Go.Proofs.YtmlhoagcppofgaaGreatDoor

namespace Go.Proofs.YtmlhoagcppofgaaGreatDoor
open Go Go.RowKit Pl
set_option linter.unusedVariables false

end Go.Proofs.YtmlhoagcppofgaaGreatDoor

namespace Go.Proofs.YtmlhoagcppofgaaGreatDoor
open Go Go.RowKit Pl
set_option linter.unusedVariables false

/-- a slice of words that came in, or lies there -/
def WordsIn (w : World) (a : Option Addr) (l : List Nat) : Prop :=
  (∀ x ∈ l, x < 4294967296) ∧ l.length ≤ 9223372036854775807 ∧ (l = [] ∨ ∃ b off, a = some ⟨b, off, none⟩ ∧ b < w.heap.size ∧ ∀ k, k < l.length → w.cell? ⟨b, off + k, none⟩ = some (.int .u32 (l.getD k 0 : Nat)))
theorem WordsIn.later {w w' : World} {a : Option Addr} {l : List Nat} (h : WordsIn w a l) (hb : Below w.heap.size w w') : WordsIn w' a l := by
  obtain ⟨h1, h2, h | ⟨b, off, rfl, hlt, hc⟩⟩ := h
  · exact ⟨h1, h2, .inl h⟩
  · exact ⟨h1, h2, .inr ⟨b, off, rfl, Nat.lt_of_lt_of_le hlt hb.size, fun k hk => (hb.cell hlt).trans (hc k hk)⟩⟩
/-- a word's bytes -/
def wordB (w : Nat) : List Nat := [w % 256, w / 256 % 256, w / 65536 % 256, w / 16777216]
def wordsB (l : List Nat) : List Nat := l.flatMap wordB
theorem wordsB_len (l : List Nat) : (wordsB l).length = 4 * l.length := by
  induction l with
  | nil => rfl
  | cons x l ih => simp [wordsB, wordB] at ih ⊢; omega
theorem wordsB_lt {l : List Nat} (h : ∀ x ∈ l, x < 4294967296) : ∀ x ∈ wordsB l, x < 256 := by
  intro x hx
  simp only [wordsB, List.mem_flatMap] at hx
  obtain ⟨w, hw, hx⟩ := hx
  have := h w hw
  simp only [wordB, List.mem_cons, List.not_mem_nil, or_false] at hx
  rcases hx with rfl | rfl | rfl | rfl <;> omega
theorem take_next {l : List Nat} {m : Nat} (h : m < l.length) : l.take (m + 1) = l.take m ++ [l.getD m 0] := by
  rw [List.take_add_one, List.getElem?_eq_getElem h]
  simp [List.getD, List.getElem?_eq_getElem h]
theorem wordsB_next {l : List Nat} {m : Nat} (h : m < l.length) : wordsB (l.take (m + 1)) = wordsB (l.take m) ++ wordB (l.getD m 0) := by
  rw [take_next h]
  simp [wordsB]
/-- registers from x1 on -/
def rgs (l : List Nat) (m : Nat) : Nat → Nat := fun k => if 1 ≤ k ∧ k ≤ m then l.getD (k - 1) 0 else 0
theorem rgs_next (l : List Nat) (m : Nat) : setR (rgs l m) (m + 1) (l.getD m 0) = rgs l (m + 1) := by
  funext k
  unfold setR rgs
  by_cases e : k = m + 1
  · subst e
    rw [if_pos ⟨rfl, by omega⟩, if_pos ⟨by omega, by omega⟩]
    simp
  · rw [if_neg (fun g => e g.1)]
    by_cases h : 1 ≤ k ∧ k ≤ m
    · rw [if_pos h, if_pos ⟨h.1, by omega⟩]
    · rw [if_neg h, if_neg (by omega)]
theorem getD_lt32 {l : List Nat} (h : ∀ x ∈ l, x < 4294967296) (i : Nat) : l.getD i 0 < 4294967296 := by
  rw [List.getD_eq_getElem?_getD]
  cases hx : l[i]? with
  | none => simp
  | some x => exact h x (List.mem_of_getElem? hx)
def begF (l : List Nat) : List Nat := setB (noughts 256) 0 (wordsB (l.take 60))
def begS (l : List Nat) : MSt := ⟨4096, rgs l (min 31 l.length), noughts 128⟩
theorem noughts_len (n : Nat) : (noughts n).length = n := List.length_replicate ..
theorem noughts_lt (n : Nat) : ∀ x ∈ noughts n, x < 256 := fun x hx => by rw [List.eq_of_mem_replicate hx]; omega
theorem made_noughtsA (n : Nat) : madeCells #[Value.int .u8 0] n = rowG (noughts n) := by
  apply Array.ext'
  apply List.ext_getElem?
  intro i
  simp only [madeCells, rowG, noughts, Array.toList_map, Array.toList_range, List.getElem?_map, List.map_replicate]
  by_cases h : i < n
  · rw [List.getElem?_range h, List.getElem?_replicate, if_pos h]
    have e : i % 1 = 0 := Nat.mod_one i
    simp [u8G, e]
  · rw [List.getElem?_eq_none (by simp; omega), List.getElem?_eq_none (by simp; omega)]; rfl
/-- a program's memory that was just made -/
theorem mem_new {w3 : World} {M F R f n1 r n2 : Nat} (hM : w3.heap[M]? = some (.cells #[.int .u32 (f : Nat), .int .u32 (n1 : Nat), .int .u32 (r : Nat), .int .u32 (n2 : Nat), .slice (some ⟨F, 0, none⟩) n1 n1, .slice (some ⟨R, 0, none⟩) n2 n2] 83 (0, 0)))
    (hF : w3.heap[F]? = some (.cells (madeCells #[.int .u8 0] n1) 5 (0, 0))) (hR : w3.heap[R]? = some (.cells (madeCells #[.int .u8 0] n2) 5 (0, 0))) (hne : F ≠ R ∧ M ≠ F ∧ M ≠ R) : MemIs M F R f r (noughts n1) (noughts n2) w3 := by
  have l1 := noughts_len n1
  have l2 := noughts_len n2
  rw [made_noughtsA] at hF hR
  have cM : ∀ j v, (#[.int .u32 (f : Nat), .int .u32 (n1 : Nat), .int .u32 (r : Nat), .int .u32 (n2 : Nat), .slice (some ⟨F, 0, none⟩) n1 n1, .slice (some ⟨R, 0, none⟩) n2 n2] : Array Value)[j]? = some v → w3.cell? ⟨M, j, none⟩ = some v := fun j v hv => by rw [cell_of_row w3 M j _ _ _ hM]; exact hv
  exact { c0 := cM 0 _ rfl, c2 := cM 2 _ rfl, c4 := by rw [l1]; exact cM 4 _ rfl, c5 := by rw [l2]; exact cM 5 _ rfl, hF := hF, hR := hR, fF := noughts_lt n1, fR := noughts_lt n2, mF := hne.2.1, mR := hne.2.2, fr := hne.1 }
/-- a document's memory that was just made -/
theorem ref_new {W : World} {X B f n1 r n2 : Nat} (hX : W.heap[X]? = some (.cells #[.int .u32 (f : Nat), .int .u32 (n1 : Nat), .int .u32 (r : Nat), .int .u32 (n2 : Nat), .slice none 0 0] 52 (0, 0))) (hB : B ≤ W.heap.size) : RefIs X B f n1 r n2 [] (.slice none 0 0) W := by
  have cX : ∀ j v, (#[.int .u32 (f : Nat), .int .u32 (n1 : Nat), .int .u32 (r : Nat), .int .u32 (n2 : Nat), .slice none 0 0] : Array Value)[j]? = some v → W.cell? ⟨X, j, none⟩ = some v := fun j v hv => by rw [cell_of_row _ _ j _ _ _ hX]; exact hv
  exact { c0 := cX 0 _ rfl, c1 := cX 1 _ rfl, c2 := cX 2 _ rfl, c3 := cX 3 _ rfl, c4 := cX 4 _ rfl, fz := by unfold World.frozen?; rw [hX]; rfl, own := World.ownsRow_nil _ _ _ _, ok := (fun x hx => by simp at hx), hx := (fun e => by cases e), lt := (Array.getElem?_eq_some_iff.1 hX).1, bs := hB, small := by simp }
theorem agree_new (f n1 r n2 : Nat) : Agree f r (noughts n1) (noughts n2) [] := by
  constructor
  · intro i hi
    simp only [atL, noughts, List.getD, List.getElem?_replicate, List.foldl_nil]; split <;> rfl
  · intro i hi
    simp only [atL, noughts, List.getD, List.getElem?_replicate, List.foldl_nil]; split <;> rfl
/-- a machine that was just made -/
theorem mach_new {W : World} {C M pc : Nat} {cs : Array Value} {t : TypeId} (h : Mac ⟨M, 0, none⟩ (pc : Nat) (fun _ => 0) cs) (hC : W.heap[C]? = some (.cells cs t (0, 0))) (hp : pc < 4294967296) : MachIs C M pc (fun _ => 0) W := by
  have cM : ∀ j, W.cell? ⟨C, j, none⟩ = cs[j]? := fun j => cell_of_row _ _ j _ _ _ hC
  exact { c0 := (cM 0).trans h.mem, c1 := (cM 1).trans h.pc, c := fun k hk => (cM (2 + k)).trans (h.reg k hk), fz := fun j hj => by unfold World.frozen?; rw [hC]; simp, r0 := rfl, pcb := hp, rb := fun k => by decide, lt := (Array.getElem?_eq_some_iff.1 hC).1 }
end Go.Proofs.YtmlhoagcppofgaaGreatDoor

namespace Go.Proofs.YtmlhoagcppofgaaGreatDoor
open Go Go.RowKit Go.ChangeShapes Go.WideShapes Go.ChangeAt
set_option linter.unusedVariables false

theorem words_in0 {H : Type} {enc : TypeId × Value → H} {P : Program} {w : World} {r : Reach} {b base : Nat} {spare : Nat → Bool} {held : Bool} {t e : TypeId} {v : Value} {d : DataW H} {p : List MemPlace}
    (ht : P.underlying t = some (.slice e)) (he : P.underlying e = some (.int .u32)) (hc : P.cellsOf e = 1)
    (hv : Value.okWide P w r b t v) (h : DataW.Trod enc P w base spare held t v d p) :
    ∃ (a : Option Addr) (c : Nat) (l : List Nat), v = .slice a l.length c ∧ WordsIn w a l := by
  obtain ⟨a, len, cap, rfl⟩ := okWide_slice ht hv
  obtain ⟨fuel, hf⟩ := h
  rcases open_ints ht he hc hf with ⟨hcs, _⟩ | ⟨x, n, c, zs, hcs, _, hl, hm, hz, _, hcell, hwz⟩
  · simp [Value.cells] at hcs
    obtain ⟨rfl, rfl, rfl⟩ := hcs
    exact ⟨none, 0, [], rfl, by simp, by simp, Or.inl rfl⟩
  · simp [Value.cells] at hcs
    obtain ⟨rfl, rfl, rfl⟩ := hcs
    have hlen : len ≤ zs.length := by rw [hz]; split <;> omega
    have l1 : ((zs.take len).map Int.toNat).length = len := by simp; omega
    have pos : ∀ z ∈ zs, 0 ≤ z ∧ z < 4294967296 := by
      intro z hz
      have : 0 ≤ z ∧ z ≤ 4294967295 := by simpa [Lit.wf, IntKind.min, IntKind.max, IntKind.signed, IntKind.bits] using hwz z hz
      omega
    refine ⟨some x, cap, (zs.take len).map Int.toNat, by rw [l1], ?_, by rw [l1]; have := hm; simp [maxLen] at this; omega, ?_⟩
    · intro n hn
      simp only [List.mem_map] at hn
      obtain ⟨z, hz, rfl⟩ := hn
      have := pos z (List.mem_of_mem_take hz)
      omega
    · by_cases h0 : len = 0
      · subst h0
        exact Or.inl (by simp)
      · obtain ⟨bl, off, spot⟩ := x
        have c0 := hcell 0 (by omega)
        have hspot : spot = none := by simpa [Addr.add] using World.cell?_spot c0
        subst hspot
        have hb := block_lt_of_cell c0
        refine Or.inr ⟨bl, off, rfl, by simpa [Addr.add] using hb, ?_⟩
        intro k hk
        rw [l1] at hk
        have ck := hcell k (by omega)
        have e1 : (⟨bl, off, none⟩ : Addr).add k = ⟨bl, off + k, none⟩ := by unfold Addr.add; split <;> simp_all
        rw [e1] at ck
        rw [ck]
        have hm : zs.getD k 0 ∈ zs := by
          simp only [List.getD, List.getElem?_eq_getElem (show k < zs.length by omega), Option.getD_some]
          exact List.getElem_mem _
        have hp := pos _ hm
        have e2 : ((zs.take len).map Int.toNat).getD k 0 = (zs.getD k 0).toNat := by
          simp [List.getD, hk, List.getElem?_eq_getElem (show k < zs.length by omega)]
        rw [e2]
        congr 2
        omega

end Go.Proofs.YtmlhoagcppofgaaGreatDoor
