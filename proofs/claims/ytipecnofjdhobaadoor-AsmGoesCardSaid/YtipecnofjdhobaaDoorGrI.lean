/- A network that came in: its nodes, its constants. -/
import Derived.Test.YtipecnofjdhobaaDoorProg
import Derived.Test.YtipecnofjdhobaaDoorFlat
import Derived.Test.YtipecnofjdhobaaDoorGrP
namespace Go.Proofs.YtipecnofjdhobaaDoor
open Go Go.RowKit Go.ChangeShapes Go.WideShapes Go.Deep
set_option linter.unusedVariables false
set_option maxRecDepth 100000

def kN : List IntKind := [.i64, .i64, .i64, .i64, .i64, .i64, .i64, .i64, .i64, .i64, .i64, .i64, .i64, .i64, .i32, .i32, .i64, .i64, .i64, .i64, .i64, .i64, .i64, .i64, .i64, .i64]
def Nd.cells (n : Nd) : List Value := [.int .i64 n.op, .int .i64 n.a, .int .i64 n.b, .int .i64 n.k0, .int .i64 n.k1, .int .i64 n.s0, .int .i64 n.s1, .int .i64 n.p0, .int .i64 n.p1, .int .i64 n.p2, .int .i64 n.p3, .int .i64 n.za, .int .i64 n.zb, .int .i64 n.zo, .int .i32 n.m1, .int .i32 n.m2, .int .i64 n.t1, .int .i64 n.t2, .int .i64 n.lo, .int .i64 n.hi, .int .i64 n.w, .int .i64 n.bias, .int .i64 n.chans, .int .i64 n.h0, .int .i64 n.h1, .int .i64 n.h2]
theorem Nd.cells_len (n : Nd) : n.cells.length = 26 := rfl
theorem nd_of {x : List Value} (h : AreInts kN x) : ∃ n : Nd, x = n.cells := by
  have hl : x.length = 26 := areInts_len h
  match x, hl with
  | [v0, v1, v2, v3, v4, v5, v6, v7, v8, v9, v10, v11, v12, v13, v14, v15, v16, v17, v18, v19, v20, v21, v22, v23, v24, v25], _ =>
    obtain ⟨⟨z0, rfl, _⟩, ⟨z1, rfl, _⟩, ⟨z2, rfl, _⟩, ⟨z3, rfl, _⟩, ⟨z4, rfl, _⟩, ⟨z5, rfl, _⟩, ⟨z6, rfl, _⟩, ⟨z7, rfl, _⟩, ⟨z8, rfl, _⟩, ⟨z9, rfl, _⟩, ⟨z10, rfl, _⟩, ⟨z11, rfl, _⟩, ⟨z12, rfl, _⟩, ⟨z13, rfl, _⟩, ⟨z14, rfl, _⟩, ⟨z15, rfl, _⟩, ⟨z16, rfl, _⟩, ⟨z17, rfl, _⟩, ⟨z18, rfl, _⟩, ⟨z19, rfl, _⟩, ⟨z20, rfl, _⟩, ⟨z21, rfl, _⟩, ⟨z22, rfl, _⟩, ⟨z23, rfl, _⟩, ⟨z24, rfl, _⟩, ⟨z25, rfl, _⟩, _⟩ := h
    exact ⟨⟨z0, z1, z2, z3, z4, z5, z6, z7, z8, z9, z10, z11, z12, z13, z14, z15, z16, z17, z18, z19, z20, z21, z22, z23, z24, z25⟩, rfl⟩
theorem nds_of : ∀ {l : List (List Value)}, (∀ x ∈ l, AreInts kN x) → ∃ ns : List Nd, l = ns.map Nd.cells ∧ ∀ n ∈ ns, AreInts kN n.cells
  | [], _ => ⟨[], rfl, by simp⟩
  | x :: l, h => by
    obtain ⟨n, rfl⟩ := nd_of (h x (by simp))
    obtain ⟨ns, rfl, hw⟩ := nds_of (l := l) (fun y hy => h y (by simp [hy]))
    exact ⟨n :: ns, rfl, fun m hm => by
      rcases List.mem_cons.mp hm with rfl | hm
      · exact h _ (by simp)
      · exact hw m hm⟩
theorem one_of {k : IntKind} : ∀ {l : List (List Value)}, (∀ x ∈ l, AreInts [k] x) → ∃ zs : List Int, l = zs.map (fun z => [.int k z]) ∧ ∀ z ∈ zs, (Lit.int k z).wf = true
  | [], _ => ⟨[], rfl, by simp⟩
  | x :: l, h => by
    obtain ⟨zs, rfl, hw⟩ := one_of (l := l) (fun y hy => h y (by simp [hy]))
    have hx := h x (by simp)
    have hl := areInts_len hx
    match x, hl with
    | [v], _ =>
      obtain ⟨⟨z, rfl, hz⟩, _⟩ := hx
      exact ⟨z :: zs, rfl, fun m hm => by
        rcases List.mem_cons.mp hm with rfl | hm
        · exact hz
        · exact hw m hm⟩
/-- a slice of nodes that came in -/
def NdsIn (w : World) (a : Option Addr) (l : List Nd) (c : Nat) : Prop := FlatIn kN w a (l.map Nd.cells) c
/-- a slice of integers that came in -/
def IntsIn (k : IntKind) (w : World) (a : Option Addr) (l : List Int) (c : Nat) : Prop := FlatIn [k] w a (l.map fun z => [.int k z]) c ∧ ∀ z ∈ l, (Lit.int k z).wf = true
/-- a constant as it lies -/
structure CnQ where
  (ba : Option Addr) (bc : Nat) (bs : List Int) (wa : Option Addr) (wc : Nat) (ws : List Int)
deriving Inhabited
def CnQ.cells (q : CnQ) : List Value := [.slice q.ba q.bs.length q.bc, .slice q.wa q.ws.length q.wc]
def CnQ.ok (w : World) (q : CnQ) : Prop := IntsIn .i8 w q.ba q.bs q.bc ∧ IntsIn .i32 w q.wa q.ws q.wc
def CnQ.cn (q : CnQ) : Cn := ⟨q.bs, q.ws⟩
/-- a slice of constants that came in -/
def CnsIn (w : World) (a : Option Addr) (l : List CnQ) (c : Nat) : Prop :=
  l.length ≤ c ∧ c ≤ 9223372036854775807 ∧ (∀ q ∈ l, q.ok w) ∧
  ((a = none ∧ l = [] ∧ c = 0) ∨ ((∃ x, a = some x) ∧ l = []) ∨ ∃ b off, a = some ⟨b, off, none⟩ ∧ b < w.heap.size ∧ ∀ k q, l[k]? = some q → w.cell? ⟨b, off + k * 2, none⟩ = some (.slice q.ba q.bs.length q.bc) ∧ w.cell? ⟨b, off + k * 2 + 1, none⟩ = some (.slice q.wa q.ws.length q.wc))
theorem IntsIn.later {k : IntKind} {w w' : World} {a : Option Addr} {l : List Int} {c : Nat} (h : IntsIn k w a l c) (hb : Below w.heap.size w w') : IntsIn k w' a l c := ⟨FlatIn.later h.1 hb, h.2⟩
theorem CnQ.ok.later {w w' : World} {q : CnQ} (h : q.ok w) (hb : Below w.heap.size w w') : q.ok w' := ⟨h.1.later hb, h.2.later hb⟩
theorem CnsIn.later {w w' : World} {a : Option Addr} {l : List CnQ} {c : Nat} (h : CnsIn w a l c) (hb : Below w.heap.size w w') : CnsIn w' a l c := by
  obtain ⟨h2, h3, h4, h | h | ⟨b, off, rfl, hlt, hc⟩⟩ := h
  · exact ⟨h2, h3, fun q hq => (h4 q hq).later hb, Or.inl h⟩
  · exact ⟨h2, h3, fun q hq => (h4 q hq).later hb, Or.inr (Or.inl h)⟩
  · exact ⟨h2, h3, fun q hq => (h4 q hq).later hb, Or.inr (Or.inr ⟨b, off, rfl, Nat.lt_of_lt_of_le hlt hb.size, fun k q hq => ⟨(hb.cell hlt).trans (hc k q hq).1, (hb.cell hlt).trans (hc k q hq).2⟩⟩)⟩
section
variable {H : Type} {enc : TypeId × Value → H} {w : World} {base : Nat} {spare : Nat → Bool} {held : Bool}
/-- a network that came in -/
structure GrQ where
  (x y z : Int) (ca : Option Addr) (cc : Nat) (C : List CnQ) (na : Option Addr) (nc : Nat) (ns : List Nd) (o : Int)
def GrQ.val (g : GrQ) : Value := .agg #[.int .i64 g.x, .int .i64 g.y, .int .i64 g.z, .slice g.ca g.C.length g.cc, .slice g.na g.ns.length g.nc, .int .i64 g.o]
def GrQ.ok (w : World) (g : GrQ) : Prop := ((Lit.int .i64 g.x).wf = true ∧ (Lit.int .i64 g.y).wf = true ∧ (Lit.int .i64 g.z).wf = true) ∧ CnsIn w g.ca g.C g.cc ∧ NdsIn w g.na g.ns g.nc ∧ (Lit.int .i64 g.o).wf = true
def GrQ.gr (g : GrQ) : Gr := ⟨⟨g.x, g.y, g.z⟩, g.C.map CnQ.cn, g.ns, g.o⟩
theorem struct_cells6 {P : Program} {w : World} {r : Reach} {b : Nat} {t : TypeId} {v : Value} {n : Nat} {fs : Array Field}
    (hu : P.underlying t = some (.struct fs)) (hC : P.cellsOf t = n) (h : Value.okWide P w r b t v) : ∃ l : List Value, l.length = n ∧ v = .agg l.toArray := by
  have : ∃ cs, v = .agg cs ∧ cs.size = P.cellsOf t ∧ Row.okWide P w r b t cs := by
    unfold Value.okWide at h
    rw [hu] at h
    exact h
  obtain ⟨cs, rfl, hsz, _⟩ := this
  exact ⟨cs.toList, by simp [hsz, hC], rfl⟩
end
end Go.Proofs.YtipecnofjdhobaaDoor
