/- Layer 5's statement on acts: Put of any bytes. -/
import Derived.Test.YtghclbeoabkgcaaMemW
import Derived.Deep.AppendLies
import Derived.Deep.RegionHeld3
namespace Go.Proofs.Ytghclbeoabkgcaa
open Go Go.RowKit
set_option linter.unusedVariables false

theorem run_append_zero {P : Program} {t ty e : TypeId} (ht : P.underlying t = some (.slice e)) {i : TypeInfo} {z : Value} (hi : P.info? e = some i) (hz : i.zero = some z) (g : Nat) (ad : Option Addr) (c : Nat) (w : World) :
    (Builtin.append_ #[t, t] ty #[.slice (some ⟨g, 0, none⟩) 0 0, .slice ad 0 c]).run P w = .ok (.slice (some ⟨g, 0, none⟩) 0 0) w := by
  cases ad <;> simp [Builtin.append_, run_underlying ht, sizeOf, typeInfo, hi, Builtin.lenOf, Builtin.firstCells, loadCells, loadCellsFrom, storeCells]
theorem step_append_zero {P : Program} {w : World} {ops : Array Oper} {o : Oper} {a : Act} {K : Act → World → Prop} {Q : Exit → Act → World → Prop} {E : Prop} (hgd : o.guard = none) (s x : Operand) (t : TypeId)
    (ho : o.op = .call { callee := .builtin .append, args := #[s, x], argTypes := #[t, t] })
    (e : TypeId) (i : TypeInfo) (z : Value) (ht : P.underlying t = some (.slice e)) (hi : P.info? e = some i) (hz : i.zero = some z)
    (g : Nat) (hs : a.eval s = .slice (some ⟨g, 0, none⟩) 0 0) (ad : Option Addr) (c : Nat) (hx : a.eval x = .slice ad 0 c)
    (h : K (a.put o.dst (.slice (some ⟨g, 0, none⟩) 0 0)) w) :
    if Region.wanted o (yielded ops a.tmps) = true then Oper.wp P o a w K Q else E := by
  have hw : Region.wanted o (yielded ops a.tmps) = true := by simp [Region.wanted, hgd]
  rw [if_pos hw]
  have hr := run_append_zero (P := P) (ty := o.type) ht hi hz g ad c w
  unfold Oper.wp execOp
  simp only [ho, resolve, invoke, builtin, Sem.run_bind, Sem.run_pure, Result.andThen_ok, List.map_toArray, List.map_cons, List.map_nil, hs, hx, hr]
  exact h
/-- where acts may change what was there -/
def DS (F R X B : Nat) (j : Nat) : Prop := j = F ∨ j = R ∨ j = X ∨ B ≤ j
/-- both memories behind an act -/
def DoesPost (M F R X B f r n1 n2 cnt : Nat) (W : World) (e : Ending) (w' : World) : Prop := e = .returned (.bool true) ∧ ∃ Fb Rb L v, Two M F R X B f r Fb Rb L v w' ∧ Agree f r Fb Rb L ∧ Fb.length = n1 ∧ Rb.length = n2 ∧ L.length ≤ cnt ∧ Out (DS F R X B) W w'
theorem setB_nil (l : List Nat) (o : Nat) : setB l o [] = l := by simp [setB]
theorem putF_length (f n1 : Nat) (Fb : List Nat) (hl : Fb.length = n1) (a : Nat) (bs : List Nat) : (putF f n1 Fb a bs).length = n1 := by
  unfold putF
  split
  · rename_i h
    have := inB_out h
    rw [setB_length _ _ _ (by omega), hl]
  · exact hl
theorem putR_length (f n1 r n2 : Nat) (Rb : List Nat) (hl : Rb.length = n2) (a : Nat) (bs : List Nat) : (putRm f n1 r n2 Rb a bs).length = n2 := by
  unfold putRm
  split
  · exact hl
  · split
    · rename_i h
      have := inB_out h
      rw [setB_length _ _ _ (by omega), hl]
    · exact hl
def logP (f n1 r n2 : Nat) (L : List (Nat × Nat)) (a : Nat) (bs : List Nat) : List (Nat × Nat) := if wIn f n1 r n2 a bs.length then L ++ writes a bs else L
theorem agree_put {f r : Nat} {Fb Rb : List Nat} {L : List (Nat × Nat)} (h : Agree f r Fb Rb L) (hd : f + Fb.length ≤ r ∨ r + Rb.length ≤ f) (a : Nat) (bs : List Nat) :
    Agree f r (putF f Fb.length Fb a bs) (putRm f Fb.length r Rb.length Rb a bs) (logP f Fb.length r Rb.length L a bs) := by
  unfold putF putRm logP wIn
  by_cases h1 : inB f Fb.length a bs.length = true
  · have := inB_out h1
    simp only [h1, if_true, Bool.true_or]
    have k := agree_flash h hd (a - f) bs (by omega)
    rwa [show f + (a - f) = a by omega] at k
  · by_cases h2 : inB r Rb.length a bs.length = true
    · have := inB_out h2
      simp only [h1, h2, if_true, Bool.or_true, Bool.false_eq_true, if_false]
      have k := agree_ram h hd (a - r) bs (by omega)
      rwa [show r + (a - r) = a by omega] at k
    · simp only [h1, h2, Bool.or_self, Bool.false_eq_true, if_false]
      exact h
theorem rput_any {X B f n1 r n2 : Nat} {L : List (Nat × Nat)} {v : Value} {W : World} (h : RefIs X B f n1 r n2 L v W) (hb : Banks f n1 r n2) (a : Nat) (ha : a < 4294967296) (bs : List Nat) (b off cc : Nat) (h0 : 0 < bs.length) (hn : bs.length ≤ 1000) (h256 : ∀ x ∈ bs, x < 256) (hs : L.length + bs.length ≤ 1000000)
    (src : ∀ j x, bs[j]? = some x → W.cell? ⟨b, off + j, none⟩ = some (.int .u8 (x : Nat))) (hbX : ¬ RS X v b) :
    Calls Try.prog 51 #[.pointer (some ⟨X, 0, none⟩), .int .u32 (a : Nat), .slice (some ⟨b, off, none⟩) bs.length cc] W (PutR X B f n1 r n2 (logP f n1 r n2 L a bs) v W (wIn f n1 r n2 a bs.length)) := by
  have hw := has_any h hb a bs.length ha (by omega)
  unfold logP
  cases hi : wIn f n1 r n2 a bs.length
  · rw [hi] at hw
    exact rput_out h a bs.length _ cc h0 (by omega) hw
  · rw [hi] at hw
    have hbd := wIn_bd hb hi
    exact rput_in h a bs b off cc h0 hbd h256 hs hw src hbX
theorem info_u8X : (Try.prog.info? 5).map (fun i => (i.zero, i.size, i.bytes)) = some (some (.int .u8 0), 1, 1) := by kernel_rfl
structure Apart (M F R X B : Nat) : Prop where
  m : M < B
  f : F < B
  r : R < B
  xf : X ≠ F
  xr : X ≠ R
  xm : X ≠ M
structure ApartB (F R X B b : Nat) : Prop where
  bf : b ≠ F
  br : b ≠ R
  bx : b ≠ X
  bB : b < B
theorem two_after {M F R X B f r : Nat} {Fb Rb : List Nat} {L : List (Nat × Nat)} {v v8 : Value} {w9 w8 : World} (hap : Apart M F R X B) (h : MemIs M F R f r Fb Rb w9) (hr : RefIs X B f Fb.length r Rb.length L v8 w8) (ho : Out (RS X v) w9 w8) (hv : ∀ j, v.ownBlock = some j → B ≤ j) : Two M F R X B f r Fb Rb L v8 w8 := by
  have q1 := hap.m; have q2 := hap.f; have q3 := hap.r; have q4 := hap.xf; have q5 := hap.xr; have q6 := hap.xm
  refine ⟨h.out ho ?_ ?_ ?_, hr⟩
  · rintro (e | e)
    · omega
    · have := hv _ e; omega
  · rintro (e | e)
    · omega
    · have := hv _ e; omega
  · rintro (e | e)
    · omega
    · have := hv _ e; omega
theorem ds_rs {F R X B : Nat} {v : Value} (hv : ∀ j, v.ownBlock = some j → B ≤ j) : ∀ j, RS X v j → DS F R X B j := by
  rintro j (e | e)
  · exact .inr (.inr (.inl e))
  · exact .inr (.inr (.inr (hv j e)))
end Go.Proofs.Ytghclbeoabkgcaa
