/- Package cpu: what any step does, as a function of registers, place and bytes. -/
import Derived.Test.YtmlhoagcppofgaaGreatDoorGQ
import Derived.Test.YtmlhoagcppofgaaGreatDoorGR
import Derived.Test.YtmlhoagcppofgaaGreatDoorGT1
import Derived.Test.YtmlhoagcppofgaaGreatDoorGT2
import Derived.Test.YtmlhoagcppofgaaGreatDoorGT3
import Derived.Test.YtmlhoagcppofgaaGreatDoorGT4
import Derived.Test.YtmlhoagcppofgaaGreatDoorGT5
import Derived.Test.YtmlhoagcppofgaaGreatDoorGF
namespace Go.Proofs.YtmlhoagcppofgaaGreatDoor
open Go Go.RowKit Pl
set_option linter.unusedVariables false

/-- registers, place, bytes of RAM -/
structure MSt where
  pc : Nat
  r : Nat → Nat
  b : List Nat
structure MEv where
  p : Nat
  w : Nat
  k : Int
  a : Nat
  s : Int
def MEv.v (e : MEv) : Value := .agg #[.int .u32 (e.p : Nat), .int .u32 (e.w : Nat), .int .i64 e.k, .int .u32 (e.a : Nat), .int .i64 e.s]
structure MOut where
  e : MEv
  t : Int
  s : MSt

def doM (f rr : Nat) (Fb : List Nat) (s : MSt) (q : Q5) (p w : Nat) : MOut :=
  if q.o ≤ 18 then ⟨⟨p, w, 0, 0, 0⟩, 0, ⟨(s.pc + 4) % 4294967296, setR s.r q.d.toNat (aluS q.o (s.r q.a.toNat : Nat) (s.r q.b.toNat : Nat)).toNat, s.b⟩⟩
  else if q.o ≤ 27 then ⟨⟨p, w, 0, 0, 0⟩, 0, ⟨(s.pc + 4) % 4294967296, setR s.r q.d.toNat (aluS (ofC q.o) (s.r q.a.toNat : Nat) (nC q.i : Nat)).toNat, s.b⟩⟩
  else if q.o ≤ 32 then
    (if (loadS f Fb.length rr s.b.length Fb s.b (atC s.r q.a.toNat q.i) (sizeC q.o)).2 ≠ 0 then ⟨⟨p, w, 0, 0, 0⟩, (loadS f Fb.length rr s.b.length Fb s.b (atC s.r q.a.toNat q.i) (sizeC q.o)).2, s⟩
    else ⟨⟨p, w, 1, atC s.r q.a.toNat q.i, sizeC q.o⟩, 0, ⟨(s.pc + 4) % 4294967296, setR s.r q.d.toNat (extC q.o (loadS f Fb.length rr s.b.length Fb s.b (atC s.r q.a.toNat q.i) (sizeC q.o)).1), s.b⟩⟩)
  else if q.o ≤ 35 then
    (if storeS rr s.b.length (atC s.r q.a.toNat q.i) (sizeC q.o) ≠ 0 then ⟨⟨p, w, 0, 0, 0⟩, storeS rr s.b.length (atC s.r q.a.toNat q.i) (sizeC q.o), s⟩
    else ⟨⟨p, w, 2, atC s.r q.a.toNat q.i, sizeC q.o⟩, 0, ⟨(s.pc + 4) % 4294967296, s.r, ramS rr s.b.length s.b (atC s.r q.a.toNat q.i) (sizeC q.o) (s.r q.b.toNat)⟩⟩)
  else if q.o ≤ 41 then
    (if takenS q.o (s.r q.a.toNat) (s.r q.b.toNat) then ⟨⟨p, w, 0, 0, 0⟩, ifA ((s.pc + nC q.i) % 4294967296) 0 1, ⟨ifA ((s.pc + nC q.i) % 4294967296) ((s.pc + nC q.i) % 4294967296) s.pc, s.r, s.b⟩⟩
    else ⟨⟨p, w, 0, 0, 0⟩, 0, ⟨(s.pc + 4) % 4294967296, s.r, s.b⟩⟩)
  else if q.o = 42 then ⟨⟨p, w, 0, 0, 0⟩, 0, ⟨(s.pc + 4) % 4294967296, setR s.r q.d.toNat (nC q.i), s.b⟩⟩
  else if q.o = 43 then ⟨⟨p, w, 0, 0, 0⟩, 0, ⟨(s.pc + 4) % 4294967296, setR s.r q.d.toNat ((s.pc + nC q.i) % 4294967296), s.b⟩⟩
  else if q.o = 44 then ⟨⟨p, w, 0, 0, 0⟩, ifA ((s.pc + nC q.i) % 4294967296) 0 1, ⟨ifA ((s.pc + nC q.i) % 4294967296) ((s.pc + nC q.i) % 4294967296) s.pc, ifA ((s.pc + nC q.i) % 4294967296) (setR s.r q.d.toNat ((s.pc + 4) % 4294967296)) s.r, s.b⟩⟩
  else if q.o = 45 then ⟨⟨p, w, 0, 0, 0⟩, ifA (atC s.r q.a.toNat q.i / 2 * 2) 0 1, ⟨ifA (atC s.r q.a.toNat q.i / 2 * 2) (atC s.r q.a.toNat q.i / 2 * 2) s.pc, ifA (atC s.r q.a.toNat q.i / 2 * 2) (setR s.r q.d.toNat ((s.pc + 4) % 4294967296)) s.r, s.b⟩⟩
  else if q.o = 46 then ⟨⟨p, w, 0, 0, 0⟩, 0, ⟨(s.pc + 4) % 4294967296, s.r, s.b⟩⟩
  else if q.o = 47 then ⟨⟨p, w, 0, 0, 0⟩, 6, s⟩
  else ⟨⟨p, w, 0, 0, 0⟩, 7, s⟩
def stepM (f rr : Nat) (Fb : List Nat) (s : MSt) : MOut :=
  if (fetchS f Fb.length rr s.b.length Fb s.b s.pc).2 ≠ 0 then ⟨⟨s.pc, 0, 0, 0, 0⟩, (fetchS f Fb.length rr s.b.length Fb s.b s.pc).2, s⟩
  else if opI ((fetchS f Fb.length rr s.b.length Fb s.b s.pc).1 : Nat) = 0 then ⟨⟨s.pc, (fetchS f Fb.length rr s.b.length Fb s.b s.pc).1, 0, 0, 0⟩, 5, s⟩
  else doM f rr Fb s (decI ((fetchS f Fb.length rr s.b.length Fb s.b s.pc).1 : Nat)) s.pc (fetchS f Fb.length rr s.b.length Fb s.b s.pc).1
/-- an instruction's parts -/
structure QBd (q : Q5) : Prop where
  o : 1 ≤ q.o ∧ q.o ≤ 48
  d : 0 ≤ q.d ∧ q.d < 32
  a : 0 ≤ q.a ∧ q.a < 32
  b : 0 ≤ q.b ∧ q.b < 32
theorem dec_bd {w : Int} (h0 : 0 ≤ w) (h1 : w < 4294967296) (h : opI w ≠ 0) : QBd (decI w) := by
  have b := opI_bd w h0 h1
  unfold decI
  rw [if_neg h]
  unfold recI
  refine ⟨by show 1 ≤ opI w ∧ opI w ≤ 48; omega, ?_, ?_, ?_⟩
  all_goals simp only
  all_goals split <;> omega
theorem numB_lt {l : List Nat} (h : ∀ x ∈ l, x < 256) : numB l < 256 ^ l.length := by
  induction l with
  | nil => simp [numB]
  | cons x l ih =>
    have h1 := ih fun y hy => h y (List.mem_cons_of_mem _ hy)
    have h2 := h x (List.mem_cons_self ..)
    have e : numB (x :: l) = x + 256 * numB l := rfl
    rw [e, List.length_cons, Nat.pow_succ]
    omega
theorem bytesAt_lt {l : List Nat} (h : ∀ x ∈ l, x < 256) (o k : Nat) (hk : k ≤ 4) : bytesAt l o k < 4294967296 := by
  unfold bytesAt
  have h1 := numB_lt (l := (l.drop o).take k) fun x hx => h x (List.mem_of_mem_drop (List.mem_of_mem_take hx))
  have h2 : ((l.drop o).take k).length ≤ 4 := by rw [List.length_take]; omega
  have h3 : 256 ^ ((l.drop o).take k).length ≤ 256 ^ 4 := Nat.pow_le_pow_right (by decide) h2
  have h4 : 256 ^ 4 = 4294967296 := by decide
  omega
theorem loadS_lt {f r n1 n2 : Nat} {Fb Rb : List Nat} (hF : ∀ x ∈ Fb, x < 256) (hR : ∀ x ∈ Rb, x < 256) (a k : Nat) (hk : k ≤ 4) : (loadS f n1 r n2 Fb Rb a k).1 < 4294967296 := by
  unfold loadS
  split
  · decide
  split
  · exact bytesAt_lt hF _ _ hk
  split
  · exact bytesAt_lt hR _ _ hk
  · decide
theorem fetchS_lt {f r n1 n2 : Nat} {Fb Rb : List Nat} (hF : ∀ x ∈ Fb, x < 256) (hR : ∀ x ∈ Rb, x < 256) (a : Nat) : (fetchS f n1 r n2 Fb Rb a).1 < 4294967296 := by
  unfold fetchS
  split
  · decide
  split
  · exact bytesAt_lt hF _ _ (by decide)
  split
  · exact bytesAt_lt hR _ _ (by decide)
  · decide
theorem fetchS_4 {f r n1 n2 : Nat} {Fb Rb : List Nat} {a : Nat} (h : (fetchS f n1 r n2 Fb Rb a).2 = 0) : a % 4 = 0 := by
  unfold fetchS at h
  split at h
  · cases h
  · omega
/-- what a step or do comes to -/
def MDone (C M F R f rr : Nat) (Fb : List Nat) (W : World) (o : MOut) (e : Ending) (w' : World) : Prop :=
  e = .returned (.tuple #[o.e.v, .int .i64 o.t]) ∧ MachIs C M o.s.pc o.s.r w' ∧ MemIs M F R f rr Fb o.s.b w' ∧ Out (fun j => j = C ∨ j = R) W w'
theorem do_any {C M F R f rr : Nat} {Fb : List Nat} {s : MSt} {W : World} (h : MachIs C M s.pc s.r W) (hm : MemIs M F R f rr Fb s.b W) (hb : Banks f Fb.length rr s.b.length) (hC : C ≠ M ∧ C ≠ F ∧ C ≠ R) (q : Q5) (hq : QBd q) (h4 : s.pc % 4 = 0) (p w : Nat) :
    Calls Tryz.prog 54 #[.pointer (some ⟨C, 0, none⟩), .agg #[.int .i64 q.o, .int .i64 q.d, .int .i64 q.a, .int .i64 q.b, .int .i32 q.i], .agg #[.int .u32 (p : Nat), .int .u32 (w : Nat), .int .i64 0, .int .u32 ((0 : Nat) : Int), .int .i64 0]] W (MDone C M F R f rr Fb W (doM f rr Fb s q p w)) := by
  obtain ⟨o, d, a, b, im⟩ := q
  obtain ⟨ho, hd, ha, hbb⟩ := hq
  simp only at ho hd ha hbb
  obtain ⟨d, rfl⟩ : ∃ n : Nat, d = n := ⟨d.toNat, by omega⟩
  obtain ⟨a, rfl⟩ : ∃ n : Nat, a = n := ⟨a.toNat, by omega⟩
  obtain ⟨b, rfl⟩ : ∃ n : Nat, b = n := ⟨b.toNat, by omega⟩
  unfold doM
  simp only [Int.toNat_natCast]
  have n4 : (s.pc + 4) % 4294967296 % 4 = 0 := by omega
  by_cases c1 : o ≤ 18
  · rw [if_pos c1]
    exact any_alu h hm hC o d a b im (by omega) (by omega) (by omega) p w (by omega)
  rw [if_neg c1]
  by_cases c2 : o ≤ 27
  · rw [if_pos c2]
    exact any_num h hm hC o d a b im (by omega) (by omega) (by omega) p w (by omega)
  rw [if_neg c2]
  by_cases c3 : o ≤ 32
  · rw [if_pos c3]
    by_cases ht : (loadS f Fb.length rr s.b.length Fb s.b (atC s.r a im) (sizeC o)).2 ≠ 0
    · rw [if_pos ht]
      exact any_load_trap h hm hb hC o d a b im (by omega) (by omega) (by omega) p w (by omega) _ _ rfl ht
    · rw [if_neg ht]
      have e : loadS f Fb.length rr s.b.length Fb s.b (atC s.r a im) (sizeC o) = ((loadS f Fb.length rr s.b.length Fb s.b (atC s.r a im) (sizeC o)).1, 0) := Prod.ext rfl (by omega)
      exact any_load_ok h hm hb hC o d a b im (by omega) (by omega) (by omega) p w (by omega) _ (loadS_lt hm.fF hm.fR _ _ (by rcases sizeC_is o with g | g | g <;> omega)) e
  rw [if_neg c3]
  by_cases c4 : o ≤ 35
  · rw [if_pos c4]
    by_cases ht : storeS rr s.b.length (atC s.r a im) (sizeC o) ≠ 0
    · rw [if_pos ht]
      have k := any_store_trap h hm hb hC o d a b im (by omega) (by omega) (by omega) p w (by omega) ht
      have e : ramS rr s.b.length s.b (atC s.r a im) (sizeC o) (s.r b) = s.b := by unfold ramS; rw [if_neg ht]
      rw [e] at k
      exact k
    · rw [if_neg ht]
      exact any_store_ok h hm hb hC o d a b im (by omega) (by omega) (by omega) p w (by omega) (by omega)
  rw [if_neg c4]
  by_cases c5 : o ≤ 41
  · rw [if_pos c5]
    by_cases ht : takenS o (s.r a) (s.r b) = true
    · rw [if_pos ht]
      exact any_byes h hm hC o d a b im (by omega) (by omega) (by omega) p w ht (by omega)
    · rw [if_neg ht]
      have k := any_bno h hm hC o d a b im (by omega) (by omega) (by omega) p w (Bool.eq_false_iff.2 ht) (by omega)
      rw [if_pos n4, if_pos n4] at k
      exact k
  rw [if_neg c5]
  by_cases c6 : o = 42
  · rw [if_pos c6]
    exact any_lui h hm hC o d a b im (by omega) (by omega) (by omega) p w c6
  rw [if_neg c6]
  by_cases c7 : o = 43
  · rw [if_pos c7]
    exact any_auipc h hm hC o d a b im (by omega) (by omega) (by omega) p w c7
  rw [if_neg c7]
  by_cases c8 : o = 44
  · rw [if_pos c8]
    exact any_jal h hm hC o d a b im (by omega) (by omega) (by omega) p w c8
  rw [if_neg c8]
  by_cases c9 : o = 45
  · rw [if_pos c9]
    exact any_jalr h hm hC o d a b im (by omega) (by omega) (by omega) p w c9
  rw [if_neg c9]
  by_cases c10 : o = 46
  · rw [if_pos c10]
    have k := any_fence h hm hC o d a b im (by omega) (by omega) (by omega) p w c10
    rw [if_pos n4, if_pos n4] at k
    exact k
  rw [if_neg c10]
  by_cases c11 : o = 47
  · rw [if_pos c11]
    exact any_ecall h hm hC o d a b im (by omega) (by omega) (by omega) p w c11
  rw [if_neg c11]
  exact any_ebreak h hm hC o d a b im (by omega) (by omega) (by omega) p w (by omega)
theorem ofQ {C M F R f rr : Nat} {Fb : List Nat} {W : World} (o : MOut) {e : Ending} {w' : World} (g : DoPost (fun V => MachIs C M o.s.pc o.s.r V ∧ MemIs M F R f rr Fb o.s.b V) (fun j => j = C ∨ j = R) W o.e.v o.t e w') : MDone C M F R f rr Fb W o e w' := ⟨g.1, g.2.1.1, g.2.1.2, g.2.2⟩
theorem step_any {C M F R f rr : Nat} {Fb : List Nat} {s : MSt} {W : World} (h : MachIs C M s.pc s.r W) (hm : MemIs M F R f rr Fb s.b W) (hb : Banks f Fb.length rr s.b.length) (hC : C ≠ M ∧ C ≠ F ∧ C ≠ R) (ht : T3 W) :
    Calls Tryz.prog 35 #[.pointer (some ⟨C, 0, none⟩)] W (MDone C M F R f rr Fb W (stepM f rr Fb s)) := by
  have FE : ∀ W', Below W.heap.size W W' → Calls Tryz.prog 53 #[.pointer (some ⟨M, 0, none⟩), .int .u32 (s.pc : Nat)] W' (LoadPost W' (fetchS f Fb.length rr s.b.length Fb s.b s.pc).1 (fetchS f Fb.length rr s.b.length Fb s.b s.pc).2) :=
    fun W' hl => fetch_any (hm.out (.of_below (fun _ => False) hl) id id id) hb s.pc h.pcb
  have xl := fetchS_lt (f := f) (n1 := Fb.length) (r := rr) (n2 := s.b.length) hm.fF hm.fR s.pc
  unfold stepM
  by_cases c1 : (fetchS f Fb.length rr s.b.length Fb s.b s.pc).2 ≠ 0
  · rw [if_pos c1]
    exact (step_trap h _ _ c1 FE).mono fun _ _ g => of_step hm hC g
  rw [if_neg c1]
  have c1' : (fetchS f Fb.length rr s.b.length Fb s.b s.pc).2 = 0 := by omega
  rw [c1'] at FE
  have DE : ∀ W', Below W.heap.size W W' → Calls Tryz.prog 28 #[.int .u32 ((fetchS f Fb.length rr s.b.length Fb s.b s.pc).1 : Nat)] W' (DecP ((fetchS f Fb.length rr s.b.length Fb s.b s.pc).1 : Nat) W') :=
    fun W' hl => dec_any _ W' (ht.later hl) (by omega) (by omega)
  have h4 := fetchS_4 c1'
  generalize (fetchS f Fb.length rr s.b.length Fb s.b s.pc).1 = x at *
  by_cases c2 : opI (x : Nat) = 0
  · rw [if_pos c2]
    refine (step_bad h x xl (decI x).o (decI x).d (decI x).a (decI x).b (decI x).i (fun W' hl => (DE W' hl).mono fun e w' g => ?_) FE).mono fun _ _ g => of_step hm hC g
    refine ⟨g.1.trans ?_, g.2⟩
    rw [show okI (x : Nat) = false by unfold okI; simp [c2]]
    rfl
  rw [if_neg c2]
  refine (step_ok h x xl (decI x).o (decI x).d (decI x).a (decI x).b (decI x).i (fun W' hl => (DE W' hl).mono fun e w' g => ?_) FE
    (doM f rr Fb s (decI x) s.pc x).e.p (doM f rr Fb s (decI x) s.pc x).e.w (doM f rr Fb s (decI x) s.pc x).e.k (doM f rr Fb s (decI x) s.pc x).e.a (doM f rr Fb s (decI x) s.pc x).e.s (doM f rr Fb s (decI x) s.pc x).t
    (Q := fun V => MachIs C M (doM f rr Fb s (decI x) s.pc x).s.pc (doM f rr Fb s (decI x) s.pc x).s.r V ∧ MemIs M F R f rr Fb (doM f rr Fb s (decI x) s.pc x).s.b V) (S := fun j => j = C ∨ j = R)
    (fun j e => by rcases e with e | e; (subst e; exact h.lt); (subst e; exact hm.lts.2.2)) (fun B V V' hB hq ho => by have hl := hm.lts; have hc := h.lt; exact ⟨hq.1.out ho (by omega), hq.2.out ho (by omega) (by omega) (by omega)⟩)
    (fun W' hl => (do_any (h.below hl) (hm.out (.of_below (fun _ => False) hl) id id id) hb hC (decI x) (dec_bd (by omega) (by omega) c2) h4 s.pc x).mono fun _ _ g => ⟨g.1, ⟨g.2.1, g.2.2.1⟩, g.2.2.2⟩)).mono fun _ _ g => ofQ _ g
  refine ⟨g.1.trans ?_, g.2⟩
  rw [show okI (x : Nat) = true by unfold okI; simp [c2]]
  rfl
end Go.Proofs.YtmlhoagcppofgaaGreatDoor

namespace Go.Proofs.YtmlhoagcppofgaaGreatDoor
open Go Go.RowKit Pl
set_option linter.unusedVariables false

theorem RSt.steps {Y X B f n1 rr n2 pc : Nat} {r : Nat → Nat} {L : List (Nat × Nat)} {v : Value} {b0 : Nat} {T : Nat → Prop} {W V V' : World} (h : RSt Y X B f n1 rr n2 pc r L v b0 W V) (ho : Out T V V') (hT : ∀ k, T k → W.heap.size ≤ k ∧ k < b0) (hY : Y < W.heap.size) (hX : X < W.heap.size) (hv : ∀ j, v.ownBlock = some j → j < W.heap.size) : RSt Y X B f n1 rr n2 pc r L v b0 W V' := by
  obtain ⟨v', m1, m2⟩ := h.mem
  refine ⟨h.mach.out ho (fun g => by have := hT _ g; omega), ?_, v', m1.out ho (fun g => by have := hT _ g; omega) (fun j hj e => ?_), m2⟩
  · exact ⟨ho.os.trans h.out.os, ho.tape.trans h.out.tape, ho.output.trans h.out.output, Nat.le_trans h.out.size ho.size, fun j hj hs => (ho.block j (Nat.lt_of_lt_of_le hj h.out.size) (fun g => by have := hT _ g; omega)).trans (h.out.block j hj hs)⟩
  · have := hT _ e
    rcases m2 j hj with g | g
    · have := hv j g; omega
    · omega
theorem RSt.back {Y X B f n1 rr n2 pc : Nat} {r : Nat → Nat} {L : List (Nat × Nat)} {v : Value} {b0 : Nat} {W V V' : World} (h : RSt Y X B f n1 rr n2 pc r L v b0 V V') (hb : Below W.heap.size W V) : RSt Y X B f n1 rr n2 pc r L v b0 W V' :=
  ⟨h.mach, (Out.of_below _ hb).trans h.out, h.mem⟩
/-- what does comes to -/
def RDone (Y X B f n1 rr n2 : Nat) (Fb : List Nat) (L : List (Nat × Nat)) (v : Value) (o : MOut) (W w' : World) : Prop :=
  ∃ L', RSt Y X B f n1 rr n2 o.s.pc o.s.r L' v W.heap.size W w' ∧ Agree f rr Fb o.s.b L' ∧ L'.length ≤ L.length + 4
def RDoes (Y X B f n1 rr n2 : Nat) (Fb : List Nat) (L : List (Nat × Nat)) (v : Value) (o : MOut) (W : World) (e : Ending) (w' : World) : Prop :=
  e = .returned (.tuple #[.agg #[.int .u32 ((0 : Nat) : Int), .int .u32 ((0 : Nat) : Int), .int .i64 o.e.k, .int .u32 (o.e.a : Nat), .int .i64 o.e.s], .int .i64 o.t]) ∧ RDone Y X B f n1 rr n2 Fb L v o W w'
theorem jalr_walk (r : Nat → Nat) (u : Nat) (im : Int) : IntKind.u32.wrap (IntKind.u32.wrap ((IntKind.u32.wrap ((r u : Int) + (nC im : Int))).tdiv 2) * 2) = ((atC r u im / 2 * 2 : Nat) : Int) := by
  have h := atC_lt r u im
  rw [IntKind.wrap_u32 ((r u : Int) + (nC im : Int)), atC_eq]
  generalize atC r u im = x at *
  rw [Int.tdiv_eq_ediv_of_nonneg (by omega), IntKind.wrap_u32, IntKind.wrap_u32]
  omega
end Go.Proofs.YtmlhoagcppofgaaGreatDoor

namespace Go.Proofs.YtmlhoagcppofgaaGreatDoor
open Go Go.RowKit Pl
set_option linter.unusedVariables false

theorem pick3' {A B P : Prop} (h : A ∧ B ∧ P) : P := h.2.2
abbrev XS (b : Nat) (k : Int) (a : Nat) (s : Int) (w : World) : Prop := w.cell? ⟨b, 2, none⟩ = some (.int .i64 k) ∧ w.cell? ⟨b, 3, none⟩ = some (.int .u32 (a : Nat)) ∧ w.cell? ⟨b, 4, none⟩ = some (.int .i64 s)
theorem XS.drew {b : Nat} {k : Int} {a : Nat} {s : Int} {w : World} (h : XS b k a s w) : XS b k a s w.drew := h
theorem XS.set {b EB i : Nat} {k : Int} {a : Nat} {s : Int} {v : Value} {w : World} (hne : b ≠ EB) (h : XS b k a s w) : XS b k a s (w.setCell ⟨EB, i, none⟩ v) := by
  obtain ⟨a0, a1, a2⟩ := h
  refine ⟨?_, ?_, ?_⟩
  all_goals rw [World.cell?_setCell_other (h := fun e => hne (by injection e with e1 _ _; omega))]
  all_goals assumption
/-- what Step comes to -/
def RStep (Y X B f n1 rr n2 : Nat) (Fb : List Nat) (L : List (Nat × Nat)) (v : Value) (o : MOut) (W : World) (e : Ending) (w' : World) : Prop := e = .returned (.tuple #[o.e.v, .int .i64 o.t]) ∧ RDone Y X B f n1 rr n2 Fb L v o W w'
def PW (p w : Nat) (o : MOut) : Prop := o.e.p = p ∧ o.e.w = w
theorem doM_pw (f rr : Nat) (Fb : List Nat) (s : MSt) (q : Q5) (p w : Nat) : (doM f rr Fb s q p w).e.p = p ∧ (doM f rr Fb s q p w).e.w = w := by
  have ite : ∀ (c : Prop) [Decidable c] (a b : MOut), PW p w a → PW p w b → PW p w (if c then a else b) := fun c _ a b h g => by split; exact h; exact g
  show PW p w _
  unfold doM
  repeat' first | exact ⟨rfl, rfl⟩ | apply ite
end Go.Proofs.YtmlhoagcppofgaaGreatDoor
