/- Package cpu: what any step does, as a function of registers, place and bytes. -/
import Derived.Test.YtidpaijnnkainaaDoorGQ
import Derived.Test.YtidpaijnnkainaaDoorGR
import Derived.Test.YtidpaijnnkainaaDoorGT1
import Derived.Test.YtidpaijnnkainaaDoorGT2
import Derived.Test.YtidpaijnnkainaaDoorGT3
import Derived.Test.YtidpaijnnkainaaDoorGT4
import Derived.Test.YtidpaijnnkainaaDoorGT5
import Derived.Test.YtidpaijnnkainaaDoorGF
namespace Go.Proofs.YtidpaijnnkainaaDoor
open Go Go.RowKit Pl
set_option linter.unusedVariables false

/-- registers, place, bytes of RAM -/
structure MSt where
  pc : Nat
  r : Nat → Nat
  b : List Nat
structure MEv where
  p : Nat
  w : Nat
  k : Int
  a : Nat
  s : Int
def MEv.v (e : MEv) : Value := .agg #[.int .u32 (e.p : Nat), .int .u32 (e.w : Nat), .int .i64 e.k, .int .u32 (e.a : Nat), .int .i64 e.s]
structure MOut where
  e : MEv
  t : Int
  s : MSt

def doM (f rr : Nat) (Fb : List Nat) (s : MSt) (q : Q5) (p w : Nat) : MOut :=
  if q.o ≤ 18 then ⟨⟨p, w, 0, 0, 0⟩, 0, ⟨(s.pc + 4) % 4294967296, setR s.r q.d.toNat (aluS q.o (s.r q.a.toNat : Nat) (s.r q.b.toNat : Nat)).toNat, s.b⟩⟩
  else if q.o ≤ 27 then ⟨⟨p, w, 0, 0, 0⟩, 0, ⟨(s.pc + 4) % 4294967296, setR s.r q.d.toNat (aluS (ofC q.o) (s.r q.a.toNat : Nat) (nC q.i : Nat)).toNat, s.b⟩⟩
  else if q.o ≤ 32 then
    (if (loadS f Fb.length rr s.b.length Fb s.b (atC s.r q.a.toNat q.i) (sizeC q.o)).2 ≠ 0 then ⟨⟨p, w, 0, 0, 0⟩, (loadS f Fb.length rr s.b.length Fb s.b (atC s.r q.a.toNat q.i) (sizeC q.o)).2, s⟩
    else ⟨⟨p, w, 1, atC s.r q.a.toNat q.i, sizeC q.o⟩, 0, ⟨(s.pc + 4) % 4294967296, setR s.r q.d.toNat (extC q.o (loadS f Fb.length rr s.b.length Fb s.b (atC s.r q.a.toNat q.i) (sizeC q.o)).1), s.b⟩⟩)
  else if q.o ≤ 35 then
    (if storeS rr s.b.length (atC s.r q.a.toNat q.i) (sizeC q.o) ≠ 0 then ⟨⟨p, w, 0, 0, 0⟩, storeS rr s.b.length (atC s.r q.a.toNat q.i) (sizeC q.o), s⟩
    else ⟨⟨p, w, 2, atC s.r q.a.toNat q.i, sizeC q.o⟩, 0, ⟨(s.pc + 4) % 4294967296, s.r, ramS rr s.b.length s.b (atC s.r q.a.toNat q.i) (sizeC q.o) (s.r q.b.toNat)⟩⟩)
  else if q.o ≤ 41 then
    (if takenS q.o (s.r q.a.toNat) (s.r q.b.toNat) then ⟨⟨p, w, 0, 0, 0⟩, ifA ((s.pc + nC q.i) % 4294967296) 0 1, ⟨ifA ((s.pc + nC q.i) % 4294967296) ((s.pc + nC q.i) % 4294967296) s.pc, s.r, s.b⟩⟩
    else ⟨⟨p, w, 0, 0, 0⟩, 0, ⟨(s.pc + 4) % 4294967296, s.r, s.b⟩⟩)
  else if q.o = 42 then ⟨⟨p, w, 0, 0, 0⟩, 0, ⟨(s.pc + 4) % 4294967296, setR s.r q.d.toNat (nC q.i), s.b⟩⟩
  else if q.o = 43 then ⟨⟨p, w, 0, 0, 0⟩, 0, ⟨(s.pc + 4) % 4294967296, setR s.r q.d.toNat ((s.pc + nC q.i) % 4294967296), s.b⟩⟩
  else if q.o = 44 then ⟨⟨p, w, 0, 0, 0⟩, ifA ((s.pc + nC q.i) % 4294967296) 0 1, ⟨ifA ((s.pc + nC q.i) % 4294967296) ((s.pc + nC q.i) % 4294967296) s.pc, ifA ((s.pc + nC q.i) % 4294967296) (setR s.r q.d.toNat ((s.pc + 4) % 4294967296)) s.r, s.b⟩⟩
  else if q.o = 45 then ⟨⟨p, w, 0, 0, 0⟩, ifA (atC s.r q.a.toNat q.i / 2 * 2) 0 1, ⟨ifA (atC s.r q.a.toNat q.i / 2 * 2) (atC s.r q.a.toNat q.i / 2 * 2) s.pc, ifA (atC s.r q.a.toNat q.i / 2 * 2) (setR s.r q.d.toNat ((s.pc + 4) % 4294967296)) s.r, s.b⟩⟩
  else if q.o = 46 then ⟨⟨p, w, 0, 0, 0⟩, 0, ⟨(s.pc + 4) % 4294967296, s.r, s.b⟩⟩
  else if q.o = 47 then ⟨⟨p, w, 0, 0, 0⟩, 6, s⟩
  else ⟨⟨p, w, 0, 0, 0⟩, 7, s⟩
def stepM (f rr : Nat) (Fb : List Nat) (s : MSt) : MOut :=
  if (fetchS f Fb.length rr s.b.length Fb s.b s.pc).2 ≠ 0 then ⟨⟨s.pc, 0, 0, 0, 0⟩, (fetchS f Fb.length rr s.b.length Fb s.b s.pc).2, s⟩
  else if opI ((fetchS f Fb.length rr s.b.length Fb s.b s.pc).1 : Nat) = 0 then ⟨⟨s.pc, (fetchS f Fb.length rr s.b.length Fb s.b s.pc).1, 0, 0, 0⟩, 5, s⟩
  else doM f rr Fb s (decI ((fetchS f Fb.length rr s.b.length Fb s.b s.pc).1 : Nat)) s.pc (fetchS f Fb.length rr s.b.length Fb s.b s.pc).1
/-- an instruction's parts -/
structure QBd (q : Q5) : Prop where
  o : 1 ≤ q.o ∧ q.o ≤ 48
  d : 0 ≤ q.d ∧ q.d < 32
  a : 0 ≤ q.a ∧ q.a < 32
  b : 0 ≤ q.b ∧ q.b < 32
theorem dec_bd {w : Int} (h0 : 0 ≤ w) (h1 : w < 4294967296) (h : opI w ≠ 0) : QBd (decI w) := by
  have b := opI_bd w h0 h1
  unfold decI
  rw [if_neg h]
  unfold recI
  refine ⟨by show 1 ≤ opI w ∧ opI w ≤ 48; omega, ?_, ?_, ?_⟩
  all_goals simp only
  all_goals split <;> omega
theorem numB_lt {l : List Nat} (h : ∀ x ∈ l, x < 256) : numB l < 256 ^ l.length := by
  induction l with
  | nil => simp [numB]
  | cons x l ih =>
    have h1 := ih fun y hy => h y (List.mem_cons_of_mem _ hy)
    have h2 := h x (List.mem_cons_self ..)
    have e : numB (x :: l) = x + 256 * numB l := rfl
    rw [e, List.length_cons, Nat.pow_succ]
    omega
theorem bytesAt_lt {l : List Nat} (h : ∀ x ∈ l, x < 256) (o k : Nat) (hk : k ≤ 4) : bytesAt l o k < 4294967296 := by
  unfold bytesAt
  have h1 := numB_lt (l := (l.drop o).take k) fun x hx => h x (List.mem_of_mem_drop (List.mem_of_mem_take hx))
  have h2 : ((l.drop o).take k).length ≤ 4 := by rw [List.length_take]; omega
  have h3 : 256 ^ ((l.drop o).take k).length ≤ 256 ^ 4 := Nat.pow_le_pow_right (by decide) h2
  have h4 : 256 ^ 4 = 4294967296 := by decide
  omega
theorem loadS_lt {f r n1 n2 : Nat} {Fb Rb : List Nat} (hF : ∀ x ∈ Fb, x < 256) (hR : ∀ x ∈ Rb, x < 256) (a k : Nat) (hk : k ≤ 4) : (loadS f n1 r n2 Fb Rb a k).1 < 4294967296 := by
  unfold loadS
  split
  · decide
  split
  · exact bytesAt_lt hF _ _ hk
  split
  · exact bytesAt_lt hR _ _ hk
  · decide
theorem fetchS_lt {f r n1 n2 : Nat} {Fb Rb : List Nat} (hF : ∀ x ∈ Fb, x < 256) (hR : ∀ x ∈ Rb, x < 256) (a : Nat) : (fetchS f n1 r n2 Fb Rb a).1 < 4294967296 := by
  unfold fetchS
  split
  · decide
  split
  · exact bytesAt_lt hF _ _ (by decide)
  split
  · exact bytesAt_lt hR _ _ (by decide)
  · decide
theorem fetchS_4 {f r n1 n2 : Nat} {Fb Rb : List Nat} {a : Nat} (h : (fetchS f n1 r n2 Fb Rb a).2 = 0) : a % 4 = 0 := by
  unfold fetchS at h
  split at h
  · cases h
  · omega
/-- what a step or do comes to -/
def MDone (C M F R f rr : Nat) (Fb : List Nat) (W : World) (o : MOut) (e : Ending) (w' : World) : Prop :=
  e = .returned (.tuple #[o.e.v, .int .i64 o.t]) ∧ MachIs C M o.s.pc o.s.r w' ∧ MemIs M F R f rr Fb o.s.b w' ∧ Out (fun j => j = C ∨ j = R) W w'
theorem do_any {C M F R f rr : Nat} {Fb : List Nat} {s : MSt} {W : World} (h : MachIs C M s.pc s.r W) (hm : MemIs M F R f rr Fb s.b W) (hb : Banks f Fb.length rr s.b.length) (hC : C ≠ M ∧ C ≠ F ∧ C ≠ R) (q : Q5) (hq : QBd q) (h4 : s.pc % 4 = 0) (p w : Nat) :
    Calls Tryd.prog 62 #[.pointer (some ⟨C, 0, none⟩), .agg #[.int .i64 q.o, .int .i64 q.d, .int .i64 q.a, .int .i64 q.b, .int .i32 q.i], .agg #[.int .u32 (p : Nat), .int .u32 (w : Nat), .int .i64 0, .int .u32 ((0 : Nat) : Int), .int .i64 0]] W (MDone C M F R f rr Fb W (doM f rr Fb s q p w)) := by
  obtain ⟨o, d, a, b, im⟩ := q
  obtain ⟨ho, hd, ha, hbb⟩ := hq
  simp only at ho hd ha hbb
  obtain ⟨d, rfl⟩ : ∃ n : Nat, d = n := ⟨d.toNat, by omega⟩
  obtain ⟨a, rfl⟩ : ∃ n : Nat, a = n := ⟨a.toNat, by omega⟩
  obtain ⟨b, rfl⟩ : ∃ n : Nat, b = n := ⟨b.toNat, by omega⟩
  unfold doM
  simp only [Int.toNat_natCast]
  have n4 : (s.pc + 4) % 4294967296 % 4 = 0 := by omega
  by_cases c1 : o ≤ 18
  · rw [if_pos c1]
    exact any_alu h hm hC o d a b im (by omega) (by omega) (by omega) p w (by omega)
  rw [if_neg c1]
  by_cases c2 : o ≤ 27
  · rw [if_pos c2]
    exact any_num h hm hC o d a b im (by omega) (by omega) (by omega) p w (by omega)
  rw [if_neg c2]
  by_cases c3 : o ≤ 32
  · rw [if_pos c3]
    by_cases ht : (loadS f Fb.length rr s.b.length Fb s.b (atC s.r a im) (sizeC o)).2 ≠ 0
    · rw [if_pos ht]
      exact any_load_trap h hm hb hC o d a b im (by omega) (by omega) (by omega) p w (by omega) _ _ rfl ht
    · rw [if_neg ht]
      have e : loadS f Fb.length rr s.b.length Fb s.b (atC s.r a im) (sizeC o) = ((loadS f Fb.length rr s.b.length Fb s.b (atC s.r a im) (sizeC o)).1, 0) := Prod.ext rfl (by omega)
      exact any_load_ok h hm hb hC o d a b im (by omega) (by omega) (by omega) p w (by omega) _ (loadS_lt hm.fF hm.fR _ _ (by rcases sizeC_is o with g | g | g <;> omega)) e
  rw [if_neg c3]
  by_cases c4 : o ≤ 35
  · rw [if_pos c4]
    by_cases ht : storeS rr s.b.length (atC s.r a im) (sizeC o) ≠ 0
    · rw [if_pos ht]
      have k := any_store_trap h hm hb hC o d a b im (by omega) (by omega) (by omega) p w (by omega) ht
      have e : ramS rr s.b.length s.b (atC s.r a im) (sizeC o) (s.r b) = s.b := by unfold ramS; rw [if_neg ht]
      rw [e] at k
      exact k
    · rw [if_neg ht]
      exact any_store_ok h hm hb hC o d a b im (by omega) (by omega) (by omega) p w (by omega) (by omega)
  rw [if_neg c4]
  by_cases c5 : o ≤ 41
  · rw [if_pos c5]
    by_cases ht : takenS o (s.r a) (s.r b) = true
    · rw [if_pos ht]
      exact any_byes h hm hC o d a b im (by omega) (by omega) (by omega) p w ht (by omega)
    · rw [if_neg ht]
      have k := any_bno h hm hC o d a b im (by omega) (by omega) (by omega) p w (Bool.eq_false_iff.2 ht) (by omega)
      rw [if_pos n4, if_pos n4] at k
      exact k
  rw [if_neg c5]
  by_cases c6 : o = 42
  · rw [if_pos c6]
    exact any_lui h hm hC o d a b im (by omega) (by omega) (by omega) p w c6
  rw [if_neg c6]
  by_cases c7 : o = 43
  · rw [if_pos c7]
    exact any_auipc h hm hC o d a b im (by omega) (by omega) (by omega) p w c7
  rw [if_neg c7]
  by_cases c8 : o = 44
  · rw [if_pos c8]
    exact any_jal h hm hC o d a b im (by omega) (by omega) (by omega) p w c8
  rw [if_neg c8]
  by_cases c9 : o = 45
  · rw [if_pos c9]
    exact any_jalr h hm hC o d a b im (by omega) (by omega) (by omega) p w c9
  rw [if_neg c9]
  by_cases c10 : o = 46
  · rw [if_pos c10]
    have k := any_fence h hm hC o d a b im (by omega) (by omega) (by omega) p w c10
    rw [if_pos n4, if_pos n4] at k
    exact k
  rw [if_neg c10]
  by_cases c11 : o = 47
  · rw [if_pos c11]
    exact any_ecall h hm hC o d a b im (by omega) (by omega) (by omega) p w c11
  rw [if_neg c11]
  exact any_ebreak h hm hC o d a b im (by omega) (by omega) (by omega) p w (by omega)
theorem ofQ {C M F R f rr : Nat} {Fb : List Nat} {W : World} (o : MOut) {e : Ending} {w' : World} (g : DoPost (fun V => MachIs C M o.s.pc o.s.r V ∧ MemIs M F R f rr Fb o.s.b V) (fun j => j = C ∨ j = R) W o.e.v o.t e w') : MDone C M F R f rr Fb W o e w' := ⟨g.1, g.2.1.1, g.2.1.2, g.2.2⟩
theorem step_any {C M F R f rr : Nat} {Fb : List Nat} {s : MSt} {W : World} (h : MachIs C M s.pc s.r W) (hm : MemIs M F R f rr Fb s.b W) (hb : Banks f Fb.length rr s.b.length) (hC : C ≠ M ∧ C ≠ F ∧ C ≠ R) (ht : T3 W) :
    Calls Tryd.prog 43 #[.pointer (some ⟨C, 0, none⟩)] W (MDone C M F R f rr Fb W (stepM f rr Fb s)) := by
  have FE : ∀ W', Below W.heap.size W W' → Calls Tryd.prog 61 #[.pointer (some ⟨M, 0, none⟩), .int .u32 (s.pc : Nat)] W' (LoadPost W' (fetchS f Fb.length rr s.b.length Fb s.b s.pc).1 (fetchS f Fb.length rr s.b.length Fb s.b s.pc).2) :=
    fun W' hl => fetch_any (hm.out (.of_below (fun _ => False) hl) id id id) hb s.pc h.pcb
  have xl := fetchS_lt (f := f) (n1 := Fb.length) (r := rr) (n2 := s.b.length) hm.fF hm.fR s.pc
  unfold stepM
  by_cases c1 : (fetchS f Fb.length rr s.b.length Fb s.b s.pc).2 ≠ 0
  · rw [if_pos c1]
    exact (step_trap h _ _ c1 FE).mono fun _ _ g => of_step hm hC g
  rw [if_neg c1]
  have c1' : (fetchS f Fb.length rr s.b.length Fb s.b s.pc).2 = 0 := by omega
  rw [c1'] at FE
  have DE : ∀ W', Below W.heap.size W W' → Calls Tryd.prog 33 #[.int .u32 ((fetchS f Fb.length rr s.b.length Fb s.b s.pc).1 : Nat)] W' (DecP ((fetchS f Fb.length rr s.b.length Fb s.b s.pc).1 : Nat) W') :=
    fun W' hl => dec_any _ W' (ht.later hl) (by omega) (by omega)
  have h4 := fetchS_4 c1'
  generalize (fetchS f Fb.length rr s.b.length Fb s.b s.pc).1 = x at *
  by_cases c2 : opI (x : Nat) = 0
  · rw [if_pos c2]
    refine (step_bad h x xl (decI x).o (decI x).d (decI x).a (decI x).b (decI x).i (fun W' hl => (DE W' hl).mono fun e w' g => ?_) FE).mono fun _ _ g => of_step hm hC g
    refine ⟨g.1.trans ?_, g.2⟩
    rw [show okI (x : Nat) = false by unfold okI; simp [c2]]
    rfl
  rw [if_neg c2]
  refine (step_ok h x xl (decI x).o (decI x).d (decI x).a (decI x).b (decI x).i (fun W' hl => (DE W' hl).mono fun e w' g => ?_) FE
    (doM f rr Fb s (decI x) s.pc x).e.p (doM f rr Fb s (decI x) s.pc x).e.w (doM f rr Fb s (decI x) s.pc x).e.k (doM f rr Fb s (decI x) s.pc x).e.a (doM f rr Fb s (decI x) s.pc x).e.s (doM f rr Fb s (decI x) s.pc x).t
    (Q := fun V => MachIs C M (doM f rr Fb s (decI x) s.pc x).s.pc (doM f rr Fb s (decI x) s.pc x).s.r V ∧ MemIs M F R f rr Fb (doM f rr Fb s (decI x) s.pc x).s.b V) (S := fun j => j = C ∨ j = R)
    (fun j e => by rcases e with e | e; (subst e; exact h.lt); (subst e; exact hm.lts.2.2)) (fun B V V' hB hq ho => by have hl := hm.lts; have hc := h.lt; exact ⟨hq.1.out ho (by omega), hq.2.out ho (by omega) (by omega) (by omega)⟩)
    (fun W' hl => (do_any (h.below hl) (hm.out (.of_below (fun _ => False) hl) id id id) hb hC (decI x) (dec_bd (by omega) (by omega) c2) h4 s.pc x).mono fun _ _ g => ⟨g.1, ⟨g.2.1, g.2.2.1⟩, g.2.2.2⟩)).mono fun _ _ g => ofQ _ g
  refine ⟨g.1.trans ?_, g.2⟩
  rw [show okI (x : Nat) = true by unfold okI; simp [c2]]
  rfl
end Go.Proofs.YtidpaijnnkainaaDoor

namespace Go.Proofs.YtidpaijnnkainaaDoor
open Go Go.RowKit Pl
set_option linter.unusedVariables false

theorem RSt.steps {Y X B f n1 rr n2 pc : Nat} {r : Nat → Nat} {L : List (Nat × Nat)} {v : Value} {b0 : Nat} {T : Nat → Prop} {W V V' : World} (h : RSt Y X B f n1 rr n2 pc r L v b0 W V) (ho : Out T V V') (hT : ∀ k, T k → W.heap.size ≤ k ∧ k < b0) (hY : Y < W.heap.size) (hX : X < W.heap.size) (hv : ∀ j, v.ownBlock = some j → j < W.heap.size) : RSt Y X B f n1 rr n2 pc r L v b0 W V' := by
  obtain ⟨v', m1, m2⟩ := h.mem
  refine ⟨h.mach.out ho (fun g => by have := hT _ g; omega), ?_, v', m1.out ho (fun g => by have := hT _ g; omega) (fun j hj e => ?_), m2⟩
  · exact ⟨ho.os.trans h.out.os, ho.tape.trans h.out.tape, ho.output.trans h.out.output, Nat.le_trans h.out.size ho.size, fun j hj hs => (ho.block j (Nat.lt_of_lt_of_le hj h.out.size) (fun g => by have := hT _ g; omega)).trans (h.out.block j hj hs)⟩
  · have := hT _ e
    rcases m2 j hj with g | g
    · have := hv j g; omega
    · omega
theorem RSt.back {Y X B f n1 rr n2 pc : Nat} {r : Nat → Nat} {L : List (Nat × Nat)} {v : Value} {b0 : Nat} {W V V' : World} (h : RSt Y X B f n1 rr n2 pc r L v b0 V V') (hb : Below W.heap.size W V) : RSt Y X B f n1 rr n2 pc r L v b0 W V' :=
  ⟨h.mach, (Out.of_below _ hb).trans h.out, h.mem⟩
/-- what does comes to -/
def RDone (Y X B f n1 rr n2 : Nat) (Fb : List Nat) (L : List (Nat × Nat)) (v : Value) (o : MOut) (W w' : World) : Prop :=
  ∃ L', RSt Y X B f n1 rr n2 o.s.pc o.s.r L' v W.heap.size W w' ∧ Agree f rr Fb o.s.b L' ∧ L'.length ≤ L.length + 4
def RDoes (Y X B f n1 rr n2 : Nat) (Fb : List Nat) (L : List (Nat × Nat)) (v : Value) (o : MOut) (W : World) (e : Ending) (w' : World) : Prop :=
  e = .returned (.tuple #[.agg #[.int .u32 ((0 : Nat) : Int), .int .u32 ((0 : Nat) : Int), .int .i64 o.e.k, .int .u32 (o.e.a : Nat), .int .i64 o.e.s], .int .i64 o.t]) ∧ RDone Y X B f n1 rr n2 Fb L v o W w'
theorem jalr_walk (r : Nat → Nat) (u : Nat) (im : Int) : IntKind.u32.wrap (IntKind.u32.wrap ((IntKind.u32.wrap ((r u : Int) + (nC im : Int))).tdiv 2) * 2) = ((atC r u im / 2 * 2 : Nat) : Int) := by
  have h := atC_lt r u im
  rw [IntKind.wrap_u32 ((r u : Int) + (nC im : Int)), atC_eq]
  generalize atC r u im = x at *
  rw [Int.tdiv_eq_ediv_of_nonneg (by omega), IntKind.wrap_u32, IntKind.wrap_u32]
  omega
theorem sext_ref (o : Int) (x : Nat) (ho : 28 ≤ o ∧ o ≤ 29) (hx : x < 4294967296) : extC o x < 4294967296 ∧ ∀ W', Calls Tryd.prog 97 #[.int .u32 (x : Nat), .int .i64 (8 * (sizeC o : Int))] W' fun e w' => e = .returned (.int .u32 (extC o x : Nat)) ∧ W' = w' := by
  rcases (show o = 28 ∨ o = 29 by omega) with rfl | rfl
  · have b := sext_bd x 8 (by omega) (by omega)
    have e1 : (8 * ((sizeC 28 : Nat) : Int)) = 8 := by simp [sizeC]
    have e2 : extC 28 x = (sextS x 8).toNat := by simp [extC]
    rw [e1, e2]
    have e3 : (((sextS x 8).toNat : Nat) : Int) = sextS x 8 := by omega
    rw [e3]
    exact ⟨by omega, fun W' => (ref1_sext x 8 W' (by omega) (by omega)).mono fun _ _ g => g⟩
  · have b := sext_bd x 16 (by omega) (by omega)
    have e1 : (8 * ((sizeC 29 : Nat) : Int)) = 16 := by simp [sizeC]
    have e2 : extC 29 x = (sextS x 16).toNat := by simp [extC]
    rw [e1, e2]
    have e3 : (((sextS x 16).toNat : Nat) : Int) = sextS x 16 := by omega
    rw [e3]
    exact ⟨by omega, fun W' => (ref1_sext x 16 W' (by omega) (by omega)).mono fun _ _ g => g⟩
theorem rdoes_any {Y X B f rr : Nat} {Fb : List Nat} {s : MSt} {L : List (Nat × Nat)} {vv : Value} {W : World} (h : MachIs Y X s.pc s.r W) (hr : RefIs X B f Fb.length rr s.b.length L vv W) (hag : Agree f rr Fb s.b L) (hb : Banks f Fb.length rr s.b.length) (hF : ∀ x ∈ Fb, x < 256) (hR : ∀ x ∈ s.b, x < 256)
    (hYX : Y ≠ X) (hYB : Y < B) (hL : L.length + 4 ≤ 1000000) (q : Q5) (hq : QBd q) (h4 : s.pc % 4 = 0) (p w : Nat) :
    Calls Tryd.prog 45 #[.pointer (some ⟨Y, 0, none⟩), .agg #[.int .i64 q.o, .int .i64 q.d, .int .i64 q.a, .int .i64 q.b, .int .i32 q.i]] W (RDoes Y X B f Fb.length rr s.b.length Fb L vv (doM f rr Fb s q p w) W) := by
  obtain ⟨o, d, a, b, im⟩ := q
  obtain ⟨ho, hd, ha, hbb⟩ := hq
  simp only at ho hd ha hbb
  obtain ⟨d, rfl⟩ : ∃ n : Nat, d = n := ⟨d.toNat, by omega⟩
  obtain ⟨a, rfl⟩ : ∃ n : Nat, a = n := ⟨a.toNat, by omega⟩
  obtain ⟨b, rfl⟩ : ∃ n : Nat, b = n := ⟨b.toNat, by omega⟩
  have hY := h.lt
  have hX := hr.lt
  have OL := hr.own_lt
  have OW : ∀ j, vv.ownBlock = some j → j < W.heap.size := fun j hj => (OL j hj).2
  have plain : ∀ {pc' : Nat} {r' : Nat → Nat} {w' : World}, MachIs Y X pc' r' w' → Out (· = Y) W w' → ∃ L', RSt Y X B f Fb.length rr s.b.length pc' r' L' vv W.heap.size W w' ∧ Agree f rr Fb s.b L' ∧ L'.length ≤ L.length + 4 := fun hm ho =>
    ⟨L, (RSt.of h hr (Below.refl _ _) W.heap.size).ofY hm ho hYX hYB hY, hag, by omega⟩
  have quiet : ∀ {w' : World}, Below W.heap.size W w' → ∃ L', RSt Y X B f Fb.length rr s.b.length s.pc s.r L' vv W.heap.size W w' ∧ Agree f rr Fb s.b L' ∧ L'.length ≤ L.length + 4 := fun ho =>
    ⟨L, RSt.of h hr ho W.heap.size, hag, by omega⟩
  unfold doM
  simp only [Int.toNat_natCast]
  by_cases c1 : o ≤ 18
  · rw [if_pos c1]
    exact (rdo_alu h o d a b im (by omega) (by omega) (by omega) _ rfl (by omega)).mono fun _ _ g => ⟨g.1, plain g.2.1 g.2.2⟩
  rw [if_neg c1]
  by_cases c2 : o ≤ 27
  · rw [if_pos c2]
    exact (rdo_num h o d a b im (by omega) (by omega) (by omega) _ rfl (by omega)).mono fun _ _ g => ⟨g.1, plain g.2.1 g.2.2⟩
  rw [if_neg c2]
  by_cases c3 : o ≤ 32
  · rw [if_pos c3]
    have LD : ∀ W', Below W.heap.size W W' → ∀ W2, Below W'.heap.size W' W2 → Calls Tryd.prog 96 #[.pointer (some ⟨X, 0, none⟩), .int .u32 (atC s.r a im : Nat), .int .i64 (sizeC o : Nat)] W2 (LoadPost W2 (loadS f Fb.length rr s.b.length Fb s.b (atC s.r a im) (sizeC o)).1 (loadS f Fb.length rr s.b.length Fb s.b (atC s.r a im) (sizeC o)).2) := fun W' h1 W2 h2 => by
      have k := rload_any ((hr.out (.of_below (fun _ => False) h1) id (fun _ _ => id)).out (.of_below (fun _ => False) h2) id (fun _ _ => id)) hb (atC s.r a im) (sizeC o) (atC_lt _ _ _) (sizeC_is o)
      rw [load_same hag] at k
      exact k
    have xl := loadS_lt (f := f) (n1 := Fb.length) (r := rr) (n2 := s.b.length) hF hR (atC s.r a im) (sizeC o) (by rcases sizeC_is o with g | g | g <;> omega)
    generalize loadS f Fb.length rr s.b.length Fb s.b (atC s.r a im) (sizeC o) = ld at *
    obtain ⟨x, t⟩ := ld
    simp only at LD xl ⊢
    by_cases ht : t ≠ 0
    · rw [if_pos ht]
      refine (rdo_mem h o d a b im (by omega) (by omega) (by omega) _ rfl (by omega) (atC s.r a im) (atC_eq _ _ _) 0 0 0 t (P := fun W5 w6 => Below W5.heap.size W5 w6) (fun W' w' hp _ j _ hj => ⟨hp.block j hj, hp.size⟩)
        (fun W' hl => (rmem_load_trap (h.below hl) o d a b im (by omega) (atC s.r a im) x t ht (LD W' hl)).mono fun _ _ g => g)).mono ?_
      rintro e w' ⟨rfl, W5, w6, k1, k2, k3, k4⟩
      exact ⟨rfl, quiet (k4.below (k1.trans (k3.mono k1.size)) (Nat.le_refl _) (fun j e => by subst e; omega))⟩
    · rw [if_neg ht]
      obtain rfl : t = 0 := by omega
      have fin : ∀ {w' W5 w6 : World}, Below W.heap.size W W5 → (MachIs Y X ((s.pc + 4) % 4294967296) (setR s.r d (extC o x)) w6 ∧ Out (· = Y) W5 w6) → Out (· = W.heap.size + 1) w6 w' → ∃ L', RSt Y X B f Fb.length rr s.b.length ((s.pc + 4) % 4294967296) (setR s.r d (extC o x)) L' vv W.heap.size W w' ∧ Agree f rr Fb s.b L' ∧ L'.length ≤ L.length + 4 := fun k1 k3 k4 =>
        ⟨L, (((RSt.of h hr k1 (W.heap.size + 2)).ofY k3.1 k3.2 hYX hYB hY).step k4 (by omega) (by omega) hY hX OW).weak (by omega), hag, by omega⟩
      have hP : ∀ W' w', (MachIs Y X ((s.pc + 4) % 4294967296) (setR s.r d (extC o x)) w' ∧ Out (· = Y) W' w') → Below W.heap.size W W' → ∀ j, W.heap.size ≤ j → j < W'.heap.size → w'.heap[j]? = W'.heap[j]? ∧ W'.heap.size ≤ w'.heap.size := fun W' w' hp _ j h1 hj => ⟨hp.2.block j hj (by omega), hp.2.size⟩
      by_cases e1 : o ≤ 29
      · obtain ⟨s1, s2⟩ := sext_ref o x (by omega) xl
        refine (rdo_mem h o d a b im (by omega) (by omega) (by omega) _ rfl (by omega) (atC s.r a im) (atC_eq _ _ _) 1 (atC s.r a im) (sizeC o) 0 hP
          (fun W' hl => (rmem_load_ext (h.below hl) o d a b im (by omega) (by omega) (atC s.r a im) x (extC o x) s1 s2 (LD W' hl)).mono fun _ _ g => g)).mono ?_
        rintro e w' ⟨rfl, W5, w6, k1, k2, k3, k4⟩
        exact ⟨rfl, fin k1 k3 k4⟩
      · have ex : extC o x = x := by unfold extC; rw [if_neg (by omega), if_neg (by omega)]
        rw [ex] at fin hP ⊢
        refine (rdo_mem h o d a b im (by omega) (by omega) (by omega) _ rfl (by omega) (atC s.r a im) (atC_eq _ _ _) 1 (atC s.r a im) (sizeC o) 0 hP
          (fun W' hl => (rmem_load_plain (h.below hl) o d a b im (by omega) (by omega) (atC s.r a im) x xl (LD W' hl)).mono fun _ _ g => g)).mono ?_
        rintro e w' ⟨rfl, W5, w6, k1, k2, k3, k4⟩
        exact ⟨rfl, fin k1 k3 k4⟩
  rw [if_neg c3]
  by_cases c4 : o ≤ 35
  · rw [if_pos c4]
    have ST : ∀ W', Below W.heap.size W W' → ∀ W2, Below W'.heap.size W' W2 → Calls Tryd.prog 95 #[.pointer (some ⟨X, 0, none⟩), .int .u32 (atC s.r a im : Nat), .int .i64 (sizeC o : Nat), .int .u32 (s.r b : Nat)] W2 (StoreR X B f Fb.length rr s.b.length (logS rr s.b.length L (atC s.r a im) (sizeC o) (s.r b)) vv W2 (storeS rr s.b.length (atC s.r a im) (sizeC o))) := fun W' h1 W2 h2 =>
      rstore_any ((hr.out (.of_below (fun _ => False) h1) id (fun _ _ => id)).out (.of_below (fun _ => False) h2) id (fun _ _ => id)) hb (atC s.r a im) (sizeC o) (s.r b) (atC_lt _ _ _) (h.rb b) (sizeC_is o) hL
    have ha2 := agree_store hag hb.e (atC s.r a im) (sizeC o) (s.r b)
    have hl2 := logS_length rr s.b.length L (atC s.r a im) (sizeC o) (s.r b)
    have hk4 : sizeC o ≤ 4 := by rcases sizeC_is o with g | g | g <;> omega
    have hram : storeS rr s.b.length (atC s.r a im) (sizeC o) ≠ 0 → ramS rr s.b.length s.b (atC s.r a im) (sizeC o) (s.r b) = s.b := fun g => by unfold ramS; rw [if_neg g]
    generalize logS rr s.b.length L (atC s.r a im) (sizeC o) (s.r b) = L' at *
    generalize storeS rr s.b.length (atC s.r a im) (sizeC o) = t at *
    have hP : ∀ pc', ∀ W' w', RSt Y X B f Fb.length rr s.b.length pc' s.r L' vv W'.heap.size W' w' → Below W.heap.size W W' → ∀ j, W.heap.size ≤ j → j < W'.heap.size → w'.heap[j]? = W'.heap[j]? ∧ W'.heap.size ≤ w'.heap.size := fun pc' W' w' hp _ j h1 hj => ⟨hp.out.block j hj (fun g => by
      rcases g with g | g | g
      · omega
      · omega
      · have := OW j g; omega), hp.out.size⟩
    have fin : ∀ {pc' : Nat} {w' W5 w6 : World}, Below W.heap.size W W5 → W.heap.size + 3 ≤ W5.heap.size → RSt Y X B f Fb.length rr s.b.length pc' s.r L' vv W5.heap.size W5 w6 → Out (· = W.heap.size + 1) w6 w' → RSt Y X B f Fb.length rr s.b.length pc' s.r L' vv W.heap.size W w' := fun k1 k2 k3 k4 =>
      ((k3.back k1).step k4 (by omega) (by omega) hY hX OW).weak (by omega)
    by_cases ht : t ≠ 0
    · rw [if_pos ht]
      rw [hram ht] at ha2
      refine (rdo_mem h o d a b im (by omega) (by omega) (by omega) _ rfl (by omega) (atC s.r a im) (atC_eq _ _ _) 0 0 0 t (P := fun W5 w6 => RSt Y X B f Fb.length rr s.b.length s.pc s.r L' vv W5.heap.size W5 w6) (hP s.pc)
        (fun W' hl => (rmem_store_trap (h.below hl) o d a b im (by omega) (by omega) (atC s.r a im) (hr.out (.of_below (fun _ => False) hl) id (fun _ _ => id)) hYX hYB t ht (ST W' hl)).mono fun _ _ g => g)).mono ?_
      rintro e w' ⟨rfl, W5, w6, k1, k2, k3, k4⟩
      exact ⟨rfl, L', fin k1 k2 k3 k4, ha2, by omega⟩
    · rw [if_neg ht]
      obtain rfl : t = 0 := by omega
      refine (rdo_mem h o d a b im (by omega) (by omega) (by omega) _ rfl (by omega) (atC s.r a im) (atC_eq _ _ _) 2 (atC s.r a im) (sizeC o) 0 (P := fun W5 w6 => RSt Y X B f Fb.length rr s.b.length ((s.pc + 4) % 4294967296) s.r L' vv W5.heap.size W5 w6) (hP _)
        (fun W' hl => (rmem_store_ok (h.below hl) o d a b im (by omega) (by omega) (atC s.r a im) (hr.out (.of_below (fun _ => False) hl) id (fun _ _ => id)) hYX hYB (ST W' hl)).mono fun _ _ g => g)).mono ?_
      rintro e w' ⟨rfl, W5, w6, k1, k2, k3, k4⟩
      exact ⟨rfl, L', fin k1 k2 k3 k4, ha2, by omega⟩
  rw [if_neg c4]
  have jw : IntKind.u32.wrap ((s.pc : Int) + (nC im : Int)) = (((s.pc + nC im) % 4294967296 : Nat) : Int) := by rw [IntKind.wrap_u32]; omega
  by_cases c5 : o ≤ 41
  · rw [if_pos c5]
    by_cases ht : takenS o (s.r a) (s.r b) = true
    · rw [if_pos ht]
      exact (rdo_byes h o d a b im (by omega) (by omega) (by omega) _ rfl (by omega) ht _ (by omega) jw).mono fun _ _ g => ⟨g.1, plain g.2.1 g.2.2⟩
    · rw [if_neg ht]
      exact (rdo_bno h o d a b im (by omega) (by omega) (by omega) _ rfl (by omega) (Bool.eq_false_iff.2 ht)).mono fun _ _ g => ⟨g.1, plain g.2.1 g.2.2⟩
  rw [if_neg c5]
  by_cases c6 : o = 42
  · rw [if_pos c6]
    exact (rdo_lui h o d a b im (by omega) (by omega) (by omega) _ rfl c6).mono fun _ _ g => ⟨g.1, plain g.2.1 g.2.2⟩
  rw [if_neg c6]
  by_cases c7 : o = 43
  · rw [if_pos c7]
    exact (rdo_auipc h o d a b im (by omega) (by omega) (by omega) _ rfl c7 _ (by omega) jw).mono fun _ _ g => ⟨g.1, plain g.2.1 g.2.2⟩
  rw [if_neg c7]
  by_cases c8 : o = 44
  · rw [if_pos c8]
    exact (rdo_jal h o d a b im (by omega) (by omega) (by omega) _ rfl c8 _ (by omega) jw).mono fun _ _ g => ⟨g.1, plain g.2.1 g.2.2⟩
  rw [if_neg c8]
  by_cases c9 : o = 45
  · rw [if_pos c9]
    exact (rdo_jalr h o d a b im (by omega) (by omega) (by omega) _ rfl c9 _ (by have := atC_lt s.r a im; omega) (jalr_walk s.r a im)).mono fun _ _ g => ⟨g.1, plain g.2.1 g.2.2⟩
  rw [if_neg c9]
  by_cases c10 : o = 46
  · rw [if_pos c10]
    exact (rdo_fence h o d a b im (by omega) (by omega) (by omega) _ rfl c10).mono fun _ _ g => ⟨g.1, plain g.2.1 g.2.2⟩
  rw [if_neg c10]
  by_cases c11 : o = 47
  · rw [if_pos c11]
    exact (rdo_ecall h o d a b im (by omega) (by omega) (by omega) _ rfl c11).mono fun _ _ g => ⟨g.1, quiet g.2⟩
  rw [if_neg c11]
  exact (rdo_ebreak h o d a b im (by omega) (by omega) (by omega) _ rfl (by omega)).mono fun _ _ g => ⟨g.1, quiet g.2⟩
end Go.Proofs.YtidpaijnnkainaaDoor

namespace Go.Proofs.YtidpaijnnkainaaDoor
open Go Go.RowKit Pl
set_option linter.unusedVariables false

theorem pick3' {A B P : Prop} (h : A ∧ B ∧ P) : P := h.2.2
set_option maxRecDepth 100000 in
set_option maxHeartbeats 2000000 in
theorem rstep_trap {Y X pc : Nat} {r : Nat → Nat} {W : World} (h : MachIs Y X pc r W) (x : Nat) (t : Int) (ht : t ≠ 0)
    (hl : ∀ W', Below W.heap.size W W' → Calls Tryd.prog 44 #[.pointer (some ⟨X, 0, none⟩), .int .u32 (pc : Nat)] W' (LoadPost W' x t)) :
    Calls Tryd.prog 30 #[.pointer (some ⟨Y, 0, none⟩)] W fun e w' => e = .returned (.tuple #[.agg #[.int .u32 (pc : Nat), .int .u32 ((0 : Nat) : Nat), .int .i64 0, .int .u32 ((0 : Nat) : Nat), .int .i64 0], .int .i64 t]) ∧ Below W.heap.size W w' := by
  have tt : (t == 0) = false := by simp; omega
  have tt' : (t != 0) = true := by simp; omega
  clear ht
  have H := Lib.hid h
  have LD := Lib.hid hl
  have hY := h.lt
  clear h hl
  go_enter Tryd.func30, Tryd.ntmps30
  have c1 := H.out.c1
  go_upto_region 2 with (fail)
  obtain ⟨g1, g2, g3⟩ := two_alloc W (.cells #[.int .u32 0, .int .u32 0, .int .i64 0, .int .u32 0, .int .i64 0] 76) (.cells #[.int .u32 (pc : Nat), .int .u32 0, .int .i64 0, .int .u32 0, .int .i64 0] 76)
  have Z1 := Lib.hid (evAt_of (p := 0) (w := 0) (a := 0) g1)
  have E1 := Lib.hid (evAt_of (p := pc) (w := 0) (a := 0) g2)
  have B1 := Lib.hid g3
  have sz1 : ((W.alloc (.cells #[.int .u32 0, .int .u32 0, .int .i64 0, .int .u32 0, .int .i64 0] 76)).alloc (.cells #[.int .u32 (pc : Nat), .int .u32 0, .int .i64 0, .int .u32 0, .int .i64 0] 76)).heap.size = W.heap.size + 2 := by simp
  clear g1 g2 g3 c1
  generalize World.alloc _ _ = W1 at *
  have c0 := (H.out.below B1.out).c0
  have c1 := (H.out.below B1.out).c1
  have L1 := LikeG.refl W1
  have LD' := Lib.hid (fun W' (hm : LikeG W1 W') => LD.out W' (hm.2 _ _ B1.out))
  clear LD
  go_region_held3 (fun w' => w'.cell? ⟨Y, 0, none⟩ = some (.pointer (some ⟨X, 0, none⟩)) ∧ w'.cell? ⟨Y, 1, none⟩ = some (.int .u32 (pc : Nat)) ∧ LikeG W1 w')
    (first | (with_reducible assumption) | (exact ⟨c0, c1, L1⟩) | (exact ⟨c0, c1, like_drew L1⟩) | (obtain ⟨s2, s3, s5⟩ := ‹_ ∧ _ ∧ LikeG W1 _›; first | exact ⟨s2, s3, s5⟩ | exact ⟨s2, s3, like_drew s5⟩ | exact ⟨(hlk.cell _).trans s2, (hlk.cell _).trans s3, s5.trans hlk⟩ | exact ⟨(hlk.cell _).trans s2, (hlk.cell _).trans s3, (like_drew s5).trans hlk⟩))
    (first
    | (go_at_call 44; (with_reducible refine (LD'.out _ (by first | exact L1 | exact like_drew L1 | (apply pick3'; with_reducible assumption))).mono ?_); rintro e w8 ⟨rfl, hlk⟩))
  obtain ⟨_, c1, hlk⟩ := ‹_ ∧ _ ∧ LikeG W1 _›
  have Z2 := Lib.hid (Z1.out.out (hlk.out (fun _ => False)) id)
  have E2 := Lib.hid (E1.out.out (hlk.out (fun _ => False)) id)
  have B2 := Lib.hid (hlk.2 _ _ B1.out)
  clear ‹World.cell? W1 _ = some (Value.pointer _)› ‹World.cell? W1 _ = some (Value.int _ _)› L1 LD' Z1 B1 E1 c1
  have z0 := Z2.out.c0
  have z1 := Z2.out.c1
  have z2 := Z2.out.c2
  have z3 := Z2.out.c3
  have z4 := Z2.out.c4
  have zf0 := Z2.out.f 0 (by omega)
  have zf1 := Z2.out.f 1 (by omega)
  have zf2 := Z2.out.f 2 (by omega)
  have zf3 := Z2.out.f 3 (by omega)
  have zf4 := Z2.out.f 4 (by omega)
  have e0 := E2.out.c0
  have e1 := E2.out.c1
  have e2 := E2.out.c2
  have e3 := E2.out.c3
  have e4 := E2.out.c4
  go_wp2_with fail
  generalize hV : World.setCell _ ⟨W.heap.size, 4, none⟩ _ = V
  have hV' : setEv w8 W.heap.size pc 0 0 0 0 = V := hV
  have ev := setEv_at Z2.out pc 0 0 0 0
  have o4 := setEv_out w8 W.heap.size pc 0 0 0 0
  rw [hV'] at ev o4
  clear hV hV' z0 z1 z2 z3 z4 zf0 zf1 zf2 zf3 zf4
  have x0 := ev.c0
  have x1 := ev.c1
  have x2 := ev.c2
  have x3 := ev.c3
  have x4 := ev.c4
  refine bodyPost_ret (v := .tuple #[.agg #[.int .u32 (pc : Nat), .int .u32 ((0 : Nat) : Nat), .int .i64 0, .int .u32 ((0 : Nat) : Nat), .int .i64 0], .int .i64 t]) (by simp [results, Tryd.results30, go_sem, x0, x1, x2, x3, x4]) rfl ⟨rfl, o4.below B2.out (Nat.le_refl _) (fun j e => by subst e; omega)⟩
set_option maxRecDepth 100000 in
set_option maxHeartbeats 2000000 in
theorem rstep_bad {Y X pc : Nat} {r : Nat → Nat} {W : World} (h : MachIs Y X pc r W) (x : Nat) (hx : x < 4294967296) (o d u v im : Int)
    (hl : ∀ W', Below W.heap.size W W' → Calls Tryd.prog 44 #[.pointer (some ⟨X, 0, none⟩), .int .u32 (pc : Nat)] W' (LoadPost W' x 0))
    (hd : ∀ W', Below W.heap.size W W' → Calls Tryd.prog 36 #[.int .u32 (x : Nat)] W' fun e w' => e = .returned (.tuple #[.agg #[.int .i64 o, .int .i64 d, .int .i64 u, .int .i64 v, .int .i32 im], .bool false]) ∧ Below W'.heap.size W' w') :
    Calls Tryd.prog 30 #[.pointer (some ⟨Y, 0, none⟩)] W fun e w' => e = .returned (.tuple #[.agg #[.int .u32 (pc : Nat), .int .u32 (x : Nat), .int .i64 0, .int .u32 ((0 : Nat) : Nat), .int .i64 0], .int .i64 5]) ∧ Below W.heap.size W w' := by
  have DD := Lib.hid hd
  clear hd
  have H := Lib.hid h
  have LD := Lib.hid hl
  have hY := h.lt
  clear h hl
  go_enter Tryd.func30, Tryd.ntmps30
  have c1 := H.out.c1
  go_upto_region 2 with (fail)
  obtain ⟨g1, g2, g3⟩ := two_alloc W (.cells #[.int .u32 0, .int .u32 0, .int .i64 0, .int .u32 0, .int .i64 0] 76) (.cells #[.int .u32 (pc : Nat), .int .u32 0, .int .i64 0, .int .u32 0, .int .i64 0] 76)
  have Z1 := Lib.hid (evAt_of (p := 0) (w := 0) (a := 0) g1)
  have E1 := Lib.hid (evAt_of (p := pc) (w := 0) (a := 0) g2)
  have B1 := Lib.hid g3
  have sz1 : ((W.alloc (.cells #[.int .u32 0, .int .u32 0, .int .i64 0, .int .u32 0, .int .i64 0] 76)).alloc (.cells #[.int .u32 (pc : Nat), .int .u32 0, .int .i64 0, .int .u32 0, .int .i64 0] 76)).heap.size = W.heap.size + 2 := by simp
  clear g1 g2 g3 c1
  generalize World.alloc _ _ = W1 at *
  have c0 := (H.out.below B1.out).c0
  have c1 := (H.out.below B1.out).c1
  have L1 := LikeG.refl W1
  have LD' := Lib.hid (fun W' (hm : LikeG W1 W') => LD.out W' (hm.2 _ _ B1.out))
  clear LD
  go_region_held3 (fun w' => w'.cell? ⟨Y, 0, none⟩ = some (.pointer (some ⟨X, 0, none⟩)) ∧ w'.cell? ⟨Y, 1, none⟩ = some (.int .u32 (pc : Nat)) ∧ LikeG W1 w')
    (first | (with_reducible assumption) | (exact ⟨c0, c1, L1⟩) | (exact ⟨c0, c1, like_drew L1⟩) | (obtain ⟨s2, s3, s5⟩ := ‹_ ∧ _ ∧ LikeG W1 _›; first | exact ⟨s2, s3, s5⟩ | exact ⟨s2, s3, like_drew s5⟩ | exact ⟨(hlk.cell _).trans s2, (hlk.cell _).trans s3, s5.trans hlk⟩ | exact ⟨(hlk.cell _).trans s2, (hlk.cell _).trans s3, (like_drew s5).trans hlk⟩))
    (first
    | (go_at_call 44; (with_reducible refine (LD'.out _ (by first | exact L1 | exact like_drew L1 | (apply pick3'; with_reducible assumption))).mono ?_); rintro e w8 ⟨rfl, hlk⟩))
  obtain ⟨_, c1, hlk⟩ := ‹_ ∧ _ ∧ LikeG W1 _›
  have Z2 := Lib.hid (Z1.out.out (hlk.out (fun _ => False)) id)
  have E2 := Lib.hid (E1.out.out (hlk.out (fun _ => False)) id)
  have B2 := Lib.hid (hlk.2 _ _ B1.out)
  clear ‹World.cell? W1 _ = some (Value.pointer _)› ‹World.cell? W1 _ = some (Value.int _ _)› L1 LD' Z1 B1 E1 c1
  have ef1 := E2.out.f 1 (by omega)
  have e1 := E2.out.c1
  go_upto_region 6 with (fail)
  have E3 : EvAt (W.heap.size + 1) pc x 0 0 0 (w8.setCell ⟨W.heap.size + 1, 1, none⟩ (.int .u32 (x : Nat))) := by
    have k := E2.out
    exact ⟨by rw [cset_ne (by decide)]; exact k.c0, World.cell?_setCell_same _ _ _ k.c1, by rw [cset_ne (by decide)]; exact k.c2, by rw [cset_ne (by decide)]; exact k.c3, by rw [cset_ne (by decide)]; exact k.c4, fun j hj => by rw [World.frozen?_setCell]; exact k.f j hj, by rw [World.size_setCell]; exact k.lt⟩
  have oV := out_cell (W.heap.size + 1) 1 (.int .u32 (x : Nat)) w8
  have Z3 := Lib.hid (Z2.out.out oV (by omega))
  have B3 := Lib.hid (oV.below B2.out (Nat.le_refl _) (fun j e => by subst e; omega))
  have E3' := Lib.hid E3
  clear oV E3 Z2 E2 B2 ef1 e1 hlk
  generalize World.setCell _ _ _ = V3 at *
  go_wp2_with fail
  refine (DD.out V3 B3.out).mono ?_
  rintro e w4 ⟨rfl, hb4⟩
  have E4 := Lib.hid (E3'.out.out (Out.of_below (fun _ => False) hb4) id)
  have Z4 := Lib.hid (Z3.out.out (Out.of_below (fun _ => False) hb4) id)
  have B4 := Lib.hid (B3.out.trans (hb4.mono B3.out.size))
  clear DD E3' Z3 B3 hb4
  go_upto_region 7 with (fail)
  have bl : Below w4.heap.size w4 (w4.alloc (.cells #[.int .i64 o, .int .i64 d, .int .i64 u, .int .i64 v, .int .i32 im] 85)) := (Below.refl _ _).alloc (Nat.le_refl _) _
  have E5 := Lib.hid (E4.out.out (Out.of_below (fun _ => False) bl) id)
  have Z5 := Lib.hid (Z4.out.out (Out.of_below (fun _ => False) bl) id)
  have B5 := Lib.hid (B4.out.alloc B4.out.size (.cells #[.int .i64 o, .int .i64 d, .int .i64 u, .int .i64 v, .int .i32 im] 85))
  have sz5 : W.heap.size + 2 ≤ w4.heap.size := E4.out.lt
  have sz6 : (w4.alloc (.cells #[.int .i64 o, .int .i64 d, .int .i64 u, .int .i64 v, .int .i32 im] 85)).heap.size = w4.heap.size + 1 := by simp
  clear E4 Z4 B4 bl
  generalize World.alloc _ _ = W5 at *
  have z0 := Z5.out.c0
  have z1 := Z5.out.c1
  have z2 := Z5.out.c2
  have z3 := Z5.out.c3
  have z4 := Z5.out.c4
  have zf0 := Z5.out.f 0 (by omega)
  have zf1 := Z5.out.f 1 (by omega)
  have zf2 := Z5.out.f 2 (by omega)
  have zf3 := Z5.out.f 3 (by omega)
  have zf4 := Z5.out.f 4 (by omega)
  have e0 := E5.out.c0
  have e1 := E5.out.c1
  have e2 := E5.out.c2
  have e3 := E5.out.c3
  have e4 := E5.out.c4
  go_wp2_with fail
  generalize hV : World.setCell _ ⟨W.heap.size, 4, none⟩ _ = V
  have hV' : setEv W5 W.heap.size pc x 0 0 0 = V := hV
  have ev := setEv_at Z5.out pc x 0 0 0
  have o4 := setEv_out W5 W.heap.size pc x 0 0 0
  rw [hV'] at ev o4
  clear hV hV' z0 z1 z2 z3 z4 zf0 zf1 zf2 zf3 zf4
  have x0 := ev.c0
  have x1 := ev.c1
  have x2 := ev.c2
  have x3 := ev.c3
  have x4 := ev.c4
  refine bodyPost_ret (v := .tuple #[.agg #[.int .u32 (pc : Nat), .int .u32 (x : Nat), .int .i64 0, .int .u32 ((0 : Nat) : Nat), .int .i64 0], .int .i64 5]) (by simp [results, Tryd.results30, go_sem, x0, x1, x2, x3, x4]) rfl ⟨rfl, o4.below B5.out (Nat.le_refl _) (fun j e => by subst e; omega)⟩
abbrev XS (b : Nat) (k : Int) (a : Nat) (s : Int) (w : World) : Prop := w.cell? ⟨b, 2, none⟩ = some (.int .i64 k) ∧ w.cell? ⟨b, 3, none⟩ = some (.int .u32 (a : Nat)) ∧ w.cell? ⟨b, 4, none⟩ = some (.int .i64 s)
theorem XS.drew {b : Nat} {k : Int} {a : Nat} {s : Int} {w : World} (h : XS b k a s w) : XS b k a s w.drew := h
theorem XS.set {b EB i : Nat} {k : Int} {a : Nat} {s : Int} {v : Value} {w : World} (hne : b ≠ EB) (h : XS b k a s w) : XS b k a s (w.setCell ⟨EB, i, none⟩ v) := by
  obtain ⟨a0, a1, a2⟩ := h
  refine ⟨?_, ?_, ?_⟩
  all_goals rw [World.cell?_setCell_other (h := fun e => hne (by injection e with e1 _ _; omega))]
  all_goals assumption
set_option maxRecDepth 100000 in
set_option maxHeartbeats 4000000 in
theorem rstep_ok {Y X pc : Nat} {r : Nat → Nat} {W : World} (h : MachIs Y X pc r W) (x : Nat) (hx : x < 4294967296) (o d u v im : Int)
    (hl : ∀ W', Below W.heap.size W W' → Calls Tryd.prog 44 #[.pointer (some ⟨X, 0, none⟩), .int .u32 (pc : Nat)] W' (LoadPost W' x 0))
    (hd : ∀ W', Below W.heap.size W W' → Calls Tryd.prog 36 #[.int .u32 (x : Nat)] W' fun e w' => e = .returned (.tuple #[.agg #[.int .i64 o, .int .i64 d, .int .i64 u, .int .i64 v, .int .i32 im], .bool true]) ∧ Below W'.heap.size W' w')
    (k : Int) (a : Nat) (s t : Int) {P : World → World → Prop} (hP : ∀ W' w', P W' w' → Below W.heap.size W W' → ∀ j, W.heap.size ≤ j → j < W'.heap.size → w'.heap[j]? = W'.heap[j]? ∧ W'.heap.size ≤ w'.heap.size)
    (hdo : ∀ W', Below W.heap.size W W' → Calls Tryd.prog 45 #[.pointer (some ⟨Y, 0, none⟩), .agg #[.int .i64 o, .int .i64 d, .int .i64 u, .int .i64 v, .int .i32 im]] W' fun e w' => e = .returned (.tuple #[.agg #[.int .u32 ((0 : Nat) : Int), .int .u32 ((0 : Nat) : Int), .int .i64 k, .int .u32 (a : Nat), .int .i64 s], .int .i64 t]) ∧ P W' w') :
    Calls Tryd.prog 30 #[.pointer (some ⟨Y, 0, none⟩)] W fun e w' => e = .returned (.tuple #[.agg #[.int .u32 (pc : Nat), .int .u32 (x : Nat), .int .i64 k, .int .u32 (a : Nat), .int .i64 s], .int .i64 t]) ∧ ∃ W5 w6, Below W.heap.size W W5 ∧ W.heap.size + 2 ≤ W5.heap.size ∧ P W5 w6 ∧ Out (fun j => j = W.heap.size ∨ j = W.heap.size + 1) w6 w' := by
  have DD := Lib.hid hd
  have HP := Lib.hid hP
  have DO := Lib.hid hdo
  clear hd hP hdo
  have H := Lib.hid h
  have LD := Lib.hid hl
  have hY := h.lt
  clear h hl
  go_enter Tryd.func30, Tryd.ntmps30
  have c1 := H.out.c1
  go_upto_region 2 with (fail)
  obtain ⟨g1, g2, g3⟩ := two_alloc W (.cells #[.int .u32 0, .int .u32 0, .int .i64 0, .int .u32 0, .int .i64 0] 76) (.cells #[.int .u32 (pc : Nat), .int .u32 0, .int .i64 0, .int .u32 0, .int .i64 0] 76)
  have Z1 := Lib.hid (evAt_of (p := 0) (w := 0) (a := 0) g1)
  have E1 := Lib.hid (evAt_of (p := pc) (w := 0) (a := 0) g2)
  have B1 := Lib.hid g3
  have sz1 : ((W.alloc (.cells #[.int .u32 0, .int .u32 0, .int .i64 0, .int .u32 0, .int .i64 0] 76)).alloc (.cells #[.int .u32 (pc : Nat), .int .u32 0, .int .i64 0, .int .u32 0, .int .i64 0] 76)).heap.size = W.heap.size + 2 := by simp
  clear g1 g2 g3 c1
  generalize World.alloc _ _ = W1 at *
  have c0 := (H.out.below B1.out).c0
  have c1 := (H.out.below B1.out).c1
  have L1 := LikeG.refl W1
  have LD' := Lib.hid (fun W' (hm : LikeG W1 W') => LD.out W' (hm.2 _ _ B1.out))
  clear LD
  go_region_held3 (fun w' => w'.cell? ⟨Y, 0, none⟩ = some (.pointer (some ⟨X, 0, none⟩)) ∧ w'.cell? ⟨Y, 1, none⟩ = some (.int .u32 (pc : Nat)) ∧ LikeG W1 w')
    (first | (with_reducible assumption) | (exact ⟨c0, c1, L1⟩) | (exact ⟨c0, c1, like_drew L1⟩) | (obtain ⟨s2, s3, s5⟩ := ‹_ ∧ _ ∧ LikeG W1 _›; first | exact ⟨s2, s3, s5⟩ | exact ⟨s2, s3, like_drew s5⟩ | exact ⟨(hlk.cell _).trans s2, (hlk.cell _).trans s3, s5.trans hlk⟩ | exact ⟨(hlk.cell _).trans s2, (hlk.cell _).trans s3, (like_drew s5).trans hlk⟩))
    (first
    | (go_at_call 44; (with_reducible refine (LD'.out _ (by first | exact L1 | exact like_drew L1 | (apply pick3'; with_reducible assumption))).mono ?_); rintro e w8 ⟨rfl, hlk⟩))
  obtain ⟨_, c1, hlk⟩ := ‹_ ∧ _ ∧ LikeG W1 _›
  have Z2 := Lib.hid (Z1.out.out (hlk.out (fun _ => False)) id)
  have E2 := Lib.hid (E1.out.out (hlk.out (fun _ => False)) id)
  have B2 := Lib.hid (hlk.2 _ _ B1.out)
  clear ‹World.cell? W1 _ = some (Value.pointer _)› ‹World.cell? W1 _ = some (Value.int _ _)› L1 LD' Z1 B1 E1 c1
  have ef1 := E2.out.f 1 (by omega)
  have e1 := E2.out.c1
  go_upto_region 6 with (fail)
  have E3 : EvAt (W.heap.size + 1) pc x 0 0 0 (w8.setCell ⟨W.heap.size + 1, 1, none⟩ (.int .u32 (x : Nat))) := by
    have k := E2.out
    exact ⟨by rw [cset_ne (by decide)]; exact k.c0, World.cell?_setCell_same _ _ _ k.c1, by rw [cset_ne (by decide)]; exact k.c2, by rw [cset_ne (by decide)]; exact k.c3, by rw [cset_ne (by decide)]; exact k.c4, fun j hj => by rw [World.frozen?_setCell]; exact k.f j hj, by rw [World.size_setCell]; exact k.lt⟩
  have oV := out_cell (W.heap.size + 1) 1 (.int .u32 (x : Nat)) w8
  have Z3 := Lib.hid (Z2.out.out oV (by omega))
  have B3 := Lib.hid (oV.below B2.out (Nat.le_refl _) (fun j e => by subst e; omega))
  have E3' := Lib.hid E3
  clear oV E3 Z2 E2 B2 ef1 e1 hlk
  generalize World.setCell _ _ _ = V3 at *
  go_wp2_with fail
  refine (DD.out V3 B3.out).mono ?_
  rintro e w4 ⟨rfl, hb4⟩
  have E4 := Lib.hid (E3'.out.out (Out.of_below (fun _ => False) hb4) id)
  have Z4 := Lib.hid (Z3.out.out (Out.of_below (fun _ => False) hb4) id)
  have B4 := Lib.hid (B3.out.trans (hb4.mono B3.out.size))
  clear DD E3' Z3 B3 hb4
  go_upto_region 7 with (fail)
  have bl : Below w4.heap.size w4 (w4.alloc (.cells #[.int .i64 o, .int .i64 d, .int .i64 u, .int .i64 v, .int .i32 im] 85)) := (Below.refl _ _).alloc (Nat.le_refl _) _
  have E5 := Lib.hid (E4.out.out (Out.of_below (fun _ => False) bl) id)
  have Z5 := Lib.hid (Z4.out.out (Out.of_below (fun _ => False) bl) id)
  have B5 := Lib.hid (B4.out.alloc B4.out.size (.cells #[.int .i64 o, .int .i64 d, .int .i64 u, .int .i64 v, .int .i32 im] 85))
  have sz5 : W.heap.size + 2 ≤ w4.heap.size := E4.out.lt
  have sz6 : (w4.alloc (.cells #[.int .i64 o, .int .i64 d, .int .i64 u, .int .i64 v, .int .i32 im] 85)).heap.size = w4.heap.size + 1 := by simp
  have I5 : ∀ j u', (#[.int .i64 o, .int .i64 d, .int .i64 u, .int .i64 v, .int .i32 im] : Array Value)[j]? = some u' → (w4.alloc (.cells #[.int .i64 o, .int .i64 d, .int .i64 u, .int .i64 v, .int .i32 im] 85)).cell? ⟨w4.heap.size, j, none⟩ = some u' := fun j u' hj => (cell_of_row _ w4.heap.size j _ _ _ (heap_alloc_new w4 (.cells #[.int .i64 o, .int .i64 d, .int .i64 u, .int .i64 v, .int .i32 im] 85))).trans hj
  have i0 := I5 0 _ rfl
  have i1 := I5 1 _ rfl
  have i2 := I5 2 _ rfl
  have i3 := I5 3 _ rfl
  have i4 := I5 4 _ rfl
  clear E4 Z4 B4 bl I5
  generalize World.alloc _ _ = W5 at *
  go_wp2_with fail
  refine (DO.out W5 B5.out).mono ?_
  rintro e w6 ⟨rfl, hp⟩
  have KEEP : ∀ j, W.heap.size ≤ j → j < W5.heap.size → w6.heap[j]? = W5.heap[j]? ∧ W5.heap.size ≤ w6.heap.size := HP.out _ _ hp B5.out
  have kept : ∀ (b p w : Nat) (k : Int) (a : Nat) (s : Int), W.heap.size ≤ b → b < W5.heap.size → EvAt b p w k a s W5 → EvAt b p w k a s w6 := fun b p w k a s h1 h2 g => by
    obtain ⟨q1, q2⟩ := KEEP b h1 h2
    exact ⟨(World.cell?_of_block q1).trans g.c0, (World.cell?_of_block q1).trans g.c1, (World.cell?_of_block q1).trans g.c2, (World.cell?_of_block q1).trans g.c3, (World.cell?_of_block q1).trans g.c4, fun j hj => (World.frozen?_of_block (a := ⟨b, j, none⟩) q1).trans (g.f j hj), Nat.lt_of_lt_of_le h2 q2⟩
  have E6 := Lib.hid (kept _ _ _ _ _ _ (by omega) (by omega) E5.out)
  have Z6 := Lib.hid (kept _ _ _ _ _ _ (by omega) (by omega) Z5.out)
  have sz7 : w4.heap.size + 1 ≤ w6.heap.size := by have := (KEEP W.heap.size (Nat.le_refl _) (by omega)).2; omega
  have HQ := Lib.hid hp
  clear hp KEEP kept E5 Z5 HP DO i0 i1 i2 i3 i4
  go_upto_region 10 with (fail)
  have b7 : Below w6.heap.size w6 (w6.alloc (.cells #[.int .u32 ((0 : Nat) : Int), .int .u32 ((0 : Nat) : Int), .int .i64 k, .int .u32 (a : Nat), .int .i64 s] 76)) := (Below.refl _ _).alloc (Nat.le_refl _) _
  have X7 := Lib.hid (evAt_of (heap_alloc_new w6 (.cells #[.int .u32 ((0 : Nat) : Int), .int .u32 ((0 : Nat) : Int), .int .i64 k, .int .u32 (a : Nat), .int .i64 s] 76)))
  have E7 := Lib.hid (E6.out.out (Out.of_below (fun _ => False) b7) id)
  have Z7 := Lib.hid (Z6.out.out (Out.of_below (fun _ => False) b7) id)
  have O7 := Lib.hid (Out.of_below (fun j => j = W.heap.size ∨ j = W.heap.size + 1) b7)
  clear E6 Z6 b7
  generalize w6.heap.size = XB at *
  generalize World.alloc _ _ = W7 at *
  have HNE := Lib.hid (show XB ≠ W.heap.size + 1 by omega)
  have hX : XS XB k a s W7 := ⟨X7.out.c2, X7.out.c3, X7.out.c4⟩
  have y2 := X7.out.c2
  have y3 := X7.out.c3
  have y4 := X7.out.c4
  have e0 := E7.out.c0
  have e1 := E7.out.c1
  have e2 := E7.out.c2
  have e3 := E7.out.c3
  have e4 := E7.out.c4
  have ef0 := E7.out.f 0 (by omega)
  have ef1 := E7.out.f 1 (by omega)
  have ef2 := E7.out.f 2 (by omega)
  have ef3 := E7.out.f 3 (by omega)
  have ef4 := E7.out.f 4 (by omega)
  go_region_held3 (fun w' => w'.cell? ⟨XB, 2, none⟩ = some (.int .i64 k) ∧ w'.cell? ⟨XB, 3, none⟩ = some (.int .u32 (a : Nat)) ∧ w'.cell? ⟨XB, 4, none⟩ = some (.int .i64 s))
    (first | (with_reducible assumption) | (with_reducible exact XS.drew hX) | (with_reducible exact XS.drew (XS.set HNE.out hX)) | (with_reducible exact XS.drew (XS.set HNE.out (XS.set HNE.out hX))) | (with_reducible exact XS.drew (XS.set HNE.out (XS.set HNE.out (XS.set HNE.out hX)))))
    (fail)
  generalize hV : World.drew _ = V
  have hV' : (setDid W7 (W.heap.size + 1) k a s).drew = V := hV
  have ld := like_drew (LikeG.refl (setDid W7 (W.heap.size + 1) k a s))
  have ev9 := (setDid_at E7.out k a s).out (ld.out (fun _ => False)) id
  have o9 := (setDid_out W7 (W.heap.size + 1) k a s).trans (ld.out _)
  rw [hV'] at ev9 o9
  have E9 := Lib.hid ev9
  have Z9 := Lib.hid (Z7.out.out o9 (by omega))
  have O9 := Lib.hid (O7.out.trans (o9.mono fun j e => Or.inr e))
  clear hV hV' ld ev9 o9 E7 Z7 O7 X7 HNE hX y2 y3 y4 e0 e1 e2 e3 e4 ef0 ef1 ef2 ef3 ef4 ‹_ ∧ _ ∧ _›
  have z0 := Z9.out.c0
  have z1 := Z9.out.c1
  have z2 := Z9.out.c2
  have z3 := Z9.out.c3
  have z4 := Z9.out.c4
  have zf0 := Z9.out.f 0 (by omega)
  have zf1 := Z9.out.f 1 (by omega)
  have zf2 := Z9.out.f 2 (by omega)
  have zf3 := Z9.out.f 3 (by omega)
  have zf4 := Z9.out.f 4 (by omega)
  have e0 := E9.out.c0
  have e1 := E9.out.c1
  have e2 := E9.out.c2
  have e3 := E9.out.c3
  have e4 := E9.out.c4
  go_wp2_with fail
  generalize hV : World.setCell _ ⟨W.heap.size, 4, none⟩ _ = V2
  have hV' : setEv V W.heap.size pc x k a s = V2 := hV
  have ev := setEv_at Z9.out pc x k a s
  have o4 := setEv_out V W.heap.size pc x k a s
  rw [hV'] at ev o4
  clear hV hV' z0 z1 z2 z3 z4 zf0 zf1 zf2 zf3 zf4
  have x0 := ev.c0
  have x1 := ev.c1
  have x2 := ev.c2
  have x3 := ev.c3
  have x4 := ev.c4
  refine bodyPost_ret (v := .tuple #[.agg #[.int .u32 (pc : Nat), .int .u32 (x : Nat), .int .i64 k, .int .u32 (a : Nat), .int .i64 s], .int .i64 t]) (by simp [results, Tryd.results30, go_sem, x0, x1, x2, x3, x4]) rfl ⟨rfl, W5, w6, B5.out, by omega, HQ.out, O9.out.trans (o4.mono fun j e => Or.inl e)⟩
/-- what Step comes to -/
def RStep (Y X B f n1 rr n2 : Nat) (Fb : List Nat) (L : List (Nat × Nat)) (v : Value) (o : MOut) (W : World) (e : Ending) (w' : World) : Prop := e = .returned (.tuple #[o.e.v, .int .i64 o.t]) ∧ RDone Y X B f n1 rr n2 Fb L v o W w'
def PW (p w : Nat) (o : MOut) : Prop := o.e.p = p ∧ o.e.w = w
theorem doM_pw (f rr : Nat) (Fb : List Nat) (s : MSt) (q : Q5) (p w : Nat) : (doM f rr Fb s q p w).e.p = p ∧ (doM f rr Fb s q p w).e.w = w := by
  have ite : ∀ (c : Prop) [Decidable c] (a b : MOut), PW p w a → PW p w b → PW p w (if c then a else b) := fun c _ a b h g => by split; exact h; exact g
  show PW p w _
  unfold doM
  repeat' first | exact ⟨rfl, rfl⟩ | apply ite
theorem rstep_any {Y X B f rr : Nat} {Fb : List Nat} {s : MSt} {L : List (Nat × Nat)} {vv : Value} {W : World} (h : MachIs Y X s.pc s.r W) (hr : RefIs X B f Fb.length rr s.b.length L vv W) (hag : Agree f rr Fb s.b L) (hb : Banks f Fb.length rr s.b.length) (hF : ∀ x ∈ Fb, x < 256) (hR : ∀ x ∈ s.b, x < 256)
    (hYX : Y ≠ X) (hYB : Y < B) (hL : L.length + 4 ≤ 1000000) :
    Calls Tryd.prog 30 #[.pointer (some ⟨Y, 0, none⟩)] W (RStep Y X B f Fb.length rr s.b.length Fb L vv (stepM f rr Fb s) W) := by
  have hY := h.lt
  have hX := hr.lt
  have OL := hr.own_lt
  have OW : ∀ j, vv.ownBlock = some j → j < W.heap.size := fun j hj => (OL j hj).2
  have quiet : ∀ {w' : World}, Below W.heap.size W w' → ∃ L', RSt Y X B f Fb.length rr s.b.length s.pc s.r L' vv W.heap.size W w' ∧ Agree f rr Fb s.b L' ∧ L'.length ≤ L.length + 4 := fun ho =>
    ⟨L, RSt.of h hr ho W.heap.size, hag, by omega⟩
  have FE : ∀ W', Below W.heap.size W W' → Calls Tryd.prog 44 #[.pointer (some ⟨X, 0, none⟩), .int .u32 (s.pc : Nat)] W' (LoadPost W' (fetchS f Fb.length rr s.b.length Fb s.b s.pc).1 (fetchS f Fb.length rr s.b.length Fb s.b s.pc).2) := fun W' hl => by
    have k := rfetch_any (hr.out (.of_below (fun _ => False) hl) id (fun _ _ => id)) hb s.pc h.pcb
    rw [fetch_same hag] at k
    exact k
  have xl := fetchS_lt (f := f) (n1 := Fb.length) (r := rr) (n2 := s.b.length) hF hR s.pc
  unfold stepM
  by_cases c1 : (fetchS f Fb.length rr s.b.length Fb s.b s.pc).2 ≠ 0
  · rw [if_pos c1]
    exact (rstep_trap h _ _ c1 FE).mono fun _ _ g => ⟨g.1, quiet g.2⟩
  rw [if_neg c1]
  have c1' : (fetchS f Fb.length rr s.b.length Fb s.b s.pc).2 = 0 := by omega
  rw [c1'] at FE
  have h4 := fetchS_4 c1'
  generalize (fetchS f Fb.length rr s.b.length Fb s.b s.pc).1 = x at *
  have DE : ∀ W', Calls Tryd.prog 36 #[.int .u32 (x : Nat)] W' (RDecP (x : Nat) W') := fun W' => rdec_any _ W' (by omega) (by omega)
  by_cases c2 : opI (x : Nat) = 0
  · rw [if_pos c2]
    refine (rstep_bad h x xl (decI x).o (decI x).d (decI x).a (decI x).b (decI x).i FE (fun W' hl => (DE W').mono fun e w' g => ?_)).mono fun _ _ g => ⟨g.1, quiet g.2⟩
    refine ⟨g.1.trans ?_, g.2⟩
    rw [show okI (x : Nat) = false by unfold okI; simp [c2]]
    rfl
  rw [if_neg c2]
  obtain ⟨pp, pw⟩ := doM_pw f rr Fb s (decI x) s.pc x
  refine (rstep_ok h x xl (decI x).o (decI x).d (decI x).a (decI x).b (decI x).i FE (fun W' hl => (DE W').mono fun e w' g => ?_)
    (doM f rr Fb s (decI x) s.pc x).e.k (doM f rr Fb s (decI x) s.pc x).e.a (doM f rr Fb s (decI x) s.pc x).e.s (doM f rr Fb s (decI x) s.pc x).t
    (P := fun W5 w6 => RDone Y X B f Fb.length rr s.b.length Fb L vv (doM f rr Fb s (decI x) s.pc x) W5 w6) (fun W' w' hp _ j h1 hj => ?_)
    (fun W' hl => (rdoes_any (h.below hl) (hr.out (.of_below (fun _ => False) hl) id (fun _ _ => id)) hag hb hF hR hYX hYB hL (decI x) (dec_bd (by omega) (by omega) c2) h4 s.pc x).mono fun _ _ g => g)).mono ?_
  · refine ⟨g.1.trans ?_, g.2⟩
    rw [show okI (x : Nat) = true by unfold okI; simp [c2]]
    rfl
  · obtain ⟨L', hp, _⟩ := hp
    exact ⟨hp.out.block j hj (fun g => by
      rcases g with g | g | g
      · omega
      · omega
      · have := OW j g; omega), hp.out.size⟩
  · rintro e w' ⟨rfl, W5, w6, k1, k2, ⟨L', k3, k5, k6⟩, k4⟩
    refine ⟨?_, L', ((k3.back k1).steps k4 (fun j e => by omega) hY hX OW).weak (by omega), k5, k6⟩
    unfold MEv.v
    rw [pp, pw]
end Go.Proofs.YtidpaijnnkainaaDoor
