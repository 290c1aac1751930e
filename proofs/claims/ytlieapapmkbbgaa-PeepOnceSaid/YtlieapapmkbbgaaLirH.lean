/- Contracts of pintleref15.End and Ends. -/
import Derived.Test.YtlieapapmkbbgaaLirG
import Derived.Test.YtlieapapmkbbgaaEndsQ
namespace Go.Proofs.Ytlieapapmkbbgaa
open Go Go.RowKit
set_option linter.unusedVariables false

def optI (k : Option Nat) : Int := match k with
  | some k => (k : Int)
  | none => -1
theorem endG_step {l : List Q5} {j n : Nat} {x : Q5} (hx : l[j]? = some x) : endG (l.drop j) j n = if x.o = 24 then (if n = 0 then some j else endG (l.drop (j + 1)) (j + 1) (n - 1)) else if x.o = 23 then endG (l.drop (j + 1)) (j + 1) (n + 1) else endG (l.drop (j + 1)) (j + 1) n := by
  have hk : j < l.length := by
    rcases Nat.lt_or_ge j l.length with g | g
    · exact g
    · rw [List.getElem?_eq_none g] at hx; cases hx
  have e : l.drop j = x :: l.drop (j + 1) := by
    rw [List.drop_eq_getElem_cons hk]
    congr 1
    rw [List.getElem?_eq_getElem hk] at hx
    exact Option.some.inj hx
  rw [e]
  rfl

set_option maxRecDepth 100000 in
set_option maxHeartbeats 400000 in
theorem rend_any (a : Option Addr) (c : Nat) (l : List Q5) (w : World) (f : Nat) (hl : L5 w a l) (hf : f ≤ l.length) :
    Calls Try.prog 38 #[.slice a l.length c, .int .i64 (f : Int)] w fun e w' => e = .returned (.int .i64 (optI (endG (l.drop f) f 0))) ∧ w = w' := by
  have hlen := hl.1
  have HL := Lib.hid hl
  clear hl
  go_enter Try.func38, Try.ntmps38
  go_wp2_with fail
  go_loop [5, 6] (fun n j => ∃ q k : Nat, q ≤ k ∧ k ≤ l.length ∧ j = .int .i64 k ∧ n = .int .i64 q ∧ endG (l.drop k) k q = endG (l.drop f) f 0) (fun _ j => l.length - (intOf j).toNat)
  case atStart => exact ⟨0, f, by omega, hf, rfl, rfl, rfl⟩
  case round =>
    obtain ⟨q, k, hq, hk, rfl, rfl, hE⟩ := hrel
    by_cases hlt : k < l.length
    · obtain ⟨x, hx⟩ := lookup hlt
      obtain ⟨_, hnil | ⟨b, off, rfl, hb, hc⟩⟩ := HL.out
      · rw [hnil] at hlt; simp at hlt
      have p0 := (hc k x hx).1
      have ES := endG_step (n := q) hx
      rw [hE] at ES
      clear hc hx hE
      by_cases h24 : x.o = 24
      · rw [if_pos h24] at ES
        have t24 : (x.o == 24) = true := by simp [h24]
        have t23 : (x.o == 23) = false := by simp [h24]
        clear h24
        by_cases h0 : q = 0
        · rw [if_pos h0] at ES
          have t0 : ((q : Int) == 0) = true := by simp [h0]
          have EE := Lib.hid ES
          clear h0 ES
          go_wp2_with fail
          go_ret
          exact ⟨ret_i64' (by rw [EE.out]; rfl), rfl⟩
        · rw [if_neg h0] at ES
          have t0 : ((q : Int) == 0) = false := by simp [h0]
          have EE := Lib.hid ES
          obtain ⟨q', rfl⟩ : ∃ q', q = q' + 1 := ⟨q - 1, by omega⟩
          clear h0 ES
          go_wp2_with fail
          refine ⟨⟨q', k + 1, by omega, by omega, by go_num, by first | rfl | (congr 1; done) | (congr 1; omega), ?_⟩, by simp [intOf]; omega⟩
          rw [EE.out, Nat.add_sub_cancel]
      · rw [if_neg h24] at ES
        have t24 : (x.o == 24) = false := by simp [h24]
        clear h24
        by_cases h23 : x.o = 23
        · rw [if_pos h23] at ES
          have t23 : (x.o == 23) = true := by simp [h23]
          have EE := Lib.hid ES
          clear h23 ES
          go_wp2_with fail
          refine ⟨⟨q + 1, k + 1, by omega, by omega, by go_num, by go_num, EE.out.symm⟩, by simp [intOf]; omega⟩
        · rw [if_neg h23] at ES
          have t23 : (x.o == 23) = false := by simp [h23]
          have EE := Lib.hid ES
          clear h23 ES
          go_wp2_with fail
          refine ⟨⟨q, k + 1, by omega, by omega, by go_num, rfl, EE.out.symm⟩, by simp [intOf]; omega⟩
    · obtain rfl : k = l.length := by omega
      have EE := Lib.hid hE
      clear hE hlt
      go_wp2_with fail
      go_ret
      refine ⟨ret_i64' ?_, rfl⟩
      rw [← EE.out, List.drop_length]
      rfl

def REndsPost (w : World) (l : List Q5) (e : Ending) (w' : World) : Prop :=
  (match endsS l with
    | some P => ∃ v, e = .returned (.tuple #[v, .bool true]) ∧ OwnI w' w.heap.size v P
    | none => ∃ v, e = .returned (.tuple #[v, .bool false]) ∧ OwnI w' w.heap.size v []) ∧ Below w.heap.size w w'
theorem rends_no {w w2 : World} {l : List Q5} {v : Value} (h : refE l = none) (hv : OwnI w2 w.heap.size v []) (hb : Below w.heap.size w w2) : REndsPost w l (.returned (.tuple #[v, .bool false])) w2 := by
  unfold REndsPost
  rw [← refE_eq, h]
  exact ⟨⟨v, rfl, hv⟩, hb⟩
theorem rends_yes {w w2 : World} {l : List Q5} {v : Value} {P : List Int} (h : refE l = some P) (hv : OwnI w2 w.heap.size v P) (hb : Below w.heap.size w w2) : REndsPost w l (.returned (.tuple #[v, .bool true])) w2 := by
  unfold REndsPost
  rw [← refE_eq, h]
  exact ⟨⟨v, rfl, hv⟩, hb⟩
theorem refR_step {l : List Q5} {j : Nat} {x : Q5} {o : List Int} (hx : l[j]? = some x) : refR (l.drop j) j o = if x.o = 23 then (match endG (l.drop (j + 1)) (j + 1) 0 with
      | none => none
      | some k => refR (l.drop (j + 1)) (j + 1) ((o.set j (k : Int)).set k (j : Int))) else refR (l.drop (j + 1)) (j + 1) o := by
  have hk : j < l.length := by
    rcases Nat.lt_or_ge j l.length with g | g
    · exact g
    · rw [List.getElem?_eq_none g] at hx; cases hx
  have e : l.drop j = x :: l.drop (j + 1) := by
    rw [List.drop_eq_getElem_cons hk]
    congr 1
    rw [List.getElem?_eq_getElem hk] at hx
    exact Option.some.inj hx
  rw [e]
  rfl
theorem okR_step {l : List Q5} {j : Nat} {x : Q5} {o : List Int} (hx : l[j]? = some x) : okR (l.drop j) j o = if x.o = 24 ∧ o.getD j 0 < 0 then false else okR (l.drop (j + 1)) (j + 1) o := by
  have hk : j < l.length := by
    rcases Nat.lt_or_ge j l.length with g | g
    · exact g
    · rw [List.getElem?_eq_none g] at hx; cases hx
  have e : l.drop j = x :: l.drop (j + 1) := by
    rw [List.drop_eq_getElem_cons hk]
    congr 1
    rw [List.getElem?_eq_getElem hk] at hx
    exact Option.some.inj hx
  rw [e]
  rfl
theorem own_row_i {w : World} {H n : Nat} {o : List Int} {base : Nat} (h : w.ownsRow base 3 1 (.slice (some ⟨H, 0, none⟩) n n) n (o.map iv)) (j : Nat) (z : Int) (hj : o[j]? = some z) (hn : j < n) : w.cell? ⟨H, j, none⟩ = some (.int .i64 z) := by
  have := h.cellAt j (by omega)
  rw [List.getElem?_map, hj, Option.map_some] at this
  exact this
theorem rep_set {n k : Nat} (h : k < n) : (List.replicate k (-1 : Int) ++ List.replicate (n - k) 0).set k (-1) = List.replicate (k + 1) (-1) ++ List.replicate (n - (k + 1)) 0 := by
  rw [List.set_append_right _ _ (by simp)]
  obtain ⟨m, hm⟩ : ∃ m, n - k = m + 1 := ⟨n - k - 1, by omega⟩
  rw [hm, List.replicate_succ, List.replicate_succ']
  simp only [List.length_replicate, Nat.sub_self, List.set_cons_zero, List.append_assoc, List.cons_append, List.nil_append]
  congr 2
  congr 1
  omega

set_option maxRecDepth 100000 in
set_option maxHeartbeats 1000000 in
theorem rends_any (a : Option Addr) (c : Nat) (l : List Q5) (w : World) (hl : L5 w a l) :
    Calls Try.prog 24 #[.slice a l.length c] w (REndsPost w l) := by
  have hlen := hl.1
  have hmk := fun W => run_make_row' (P := Try.prog) 40 3 (.int .i64 0) 8 Try.underlying40 info_int rfl .i64 .i64 l.length (by omega) (by omega) W
  have OW0 := Lib.hid (World.ownsRow_lit (base := w.heap.size) (size := 1) (e := 3) w (madeCells #[Value.int .i64 0] l.length) l.length (Nat.le_refl _) (by simp only [maxLen]; omega) (by rw [size_madeCells]; omega))
  have HL := Lib.hid hl
  clear hl
  go_enter Try.func24, Try.ntmps24
  go_wp2_with fail
  go_loopw [5] (fun i wr => ∃ k : Nat, k ≤ l.length ∧ i = .int .i64 k ∧ wr.ownsRow w.heap.size 3 1 (.slice (some ⟨w.heap.size, 0, none⟩) l.length l.length) l.length ((List.replicate k (-1 : Int) ++ List.replicate (l.length - k) 0).map iv) ∧ Below w.heap.size w wr) (fun i _ => l.length - (intOf i).toNat)
  case atStart => exact ⟨0, Nat.zero_le _, rfl, by rw [List.replicate_zero, List.nil_append, Nat.sub_zero, ← made_zero]; exact OW0.out, by go_grown⟩
  case round =>
    obtain ⟨k, hk, rfl, own4, hb⟩ := hrel
    clear hmk
    have hz := (own4.lt w.heap.size rfl).2
    by_cases hlt : k < l.length
    · have c4 := own_row_i own4 k 0 (by rw [List.getElem?_append_right (by simp), List.getElem?_replicate, if_pos (by simp; omega)]) hlt
      have fz := own4.frozenAt k
      have ST := Lib.hid (own4.stored k (iv (-1))).1
      have HB := Lib.hid hb
      have RS := Lib.hid (rep_set hlt)
      clear own4 hb
      go_wp2_with fail
      refine ⟨⟨k + 1, by omega, rfl, ?_, HB.out.setCell (Nat.le_refl _) _⟩, by simp [intOf]; omega⟩
      have := ST.out
      rw [← List.map_set, RS.out] at this
      exact this
    · obtain rfl : k = l.length := by omega
      have HB := Lib.hid hb
      have H4 := Lib.hid (show wr.ownsRow w.heap.size 3 1 (.slice (some ⟨w.heap.size, 0, none⟩) l.length l.length) l.length ((List.replicate l.length (-1 : Int)).map iv) by simpa using own4)
      clear own4 hb hlt
      go_wp2_with fail
      go_loopw [6] (fun i wr => ∃ (k : Nat) (o : List Int), k ≤ l.length ∧ i = .int .i64 k ∧ o.length = l.length ∧ refR (l.drop k) k o = refR l 0 (List.replicate l.length (-1)) ∧ wr.ownsRow w.heap.size 3 1 (.slice (some ⟨w.heap.size, 0, none⟩) l.length l.length) l.length (o.map iv) ∧ Below w.heap.size w wr) (fun i _ => l.length - (intOf i).toNat)
      case atStart => exact ⟨0, List.replicate l.length (-1), Nat.zero_le _, rfl, by simp, rfl, H4.out, HB.out⟩
      case round =>
        obtain ⟨k, o, hk, rfl, ho, hR, own4, hb⟩ := hrel
        have hz := (own4.lt w.heap.size rfl).2
        by_cases hlt : k < l.length
        · obtain ⟨x, hx⟩ := lookup hlt
          have hl2 := HL.out.later hb
          have L2 := Lib.hid hl2
          obtain ⟨_, hnil | ⟨bb, off, rfl, hbb, hc⟩⟩ := hl2
          · rw [hnil] at hlt; simp at hlt
          have p0 := (hc k x hx).1
          have RS := refR_step (o := o) hx
          rw [hR] at RS
          have HB := Lib.hid hb
          by_cases h23 : x.o = 23
          · rw [if_pos h23] at RS
            have t23 : (x.o == 23) = true := by simp [h23]
            have END := Lib.hid (rend_any (some ⟨bb, off, none⟩) c l · (k + 1) · (by omega))
            cases hm : endG (l.drop (k + 1)) (k + 1) 0 with
            | none =>
              rw [hm] at RS
              have RR := Lib.hid RS
              have HM := Lib.hid hm
              clear RS hm hx hc hb hR own4 h23
              go_wp2_with fail
              refine (END.out wr L2.out).mono ?_
              rw [HM.out]
              rintro e w1 ⟨rfl, rfl⟩
              simp only [optI]
              go_wp2_with fail
              go_ret2
              exact rends_no (by unfold refE; rw [RR.out]) (own_made wr w.heap.size HB.out.size _ rfl) (HB.out.alloc HB.out.size _)
            | some q =>
              rw [hm] at RS
              have RR := Lib.hid RS
              have HM := Lib.hid hm
              have hge := endG_ge _ _ _ _ hm
              have hq : q < l.length := by have := hge.2.1; simp at this; omega
              have hkq : k < q := by omega
              obtain ⟨y1, hy1⟩ := lookup (l := o) (k := k) (by omega)
              obtain ⟨y2, hy2⟩ := lookup (l := o) (k := q) (by omega)
              have ck := own_row_i own4 k y1 hy1 hlt
              have cq := own_row_i own4 q y2 hy2 hq
              have fk := own4.frozenAt k
              have fq := own4.frozenAt q
              have ST := Lib.hid ((own4.stored k (iv (q : Int))).1.stored q (iv (k : Int))).1
              clear RS hm hx hc hb hR own4 h23 hge hy1 hy2
              go_wp2_with fail
              refine (END.out wr L2.out).mono ?_
              rw [HM.out]
              rintro e w1 ⟨rfl, rfl⟩
              simp only [optI]
              go_wp2_with fail
              refine ⟨⟨k + 1, (o.set k (q : Int)).set q (k : Int), by omega, rfl, by simpa using ho, RR.out.symm, ?_, (HB.out.setCell (Nat.le_refl _) _).setCell (Nat.le_refl _) _⟩, by simp [intOf]; omega⟩
              rw [List.map_set, List.map_set]
              exact ST.out
          · rw [if_neg h23] at RS
            have t23 : (x.o == 23) = false := by simp [h23]
            have RR := Lib.hid RS
            have H4 := Lib.hid own4
            clear RS hx hc hb hR own4 h23
            go_wp2_with fail
            refine ⟨⟨k + 1, o, by omega, rfl, ho, RR.out.symm, H4.out, HB.out⟩, by simp [intOf]; omega⟩
        · obtain rfl : k = l.length := by omega
          rw [List.drop_length] at hR
          have RR := Lib.hid (show refR l 0 (List.replicate l.length (-1)) = some o from hR.symm)
          have HB := Lib.hid hb
          have H4 := Lib.hid own4
          have HLL := Lib.hid (HL.out.later hb)
          have CELL := Lib.hid (fun j z hj hn => own_row_i own4 j z hj hn)
          clear hR hb own4 hlt
          go_wp2_with fail
          go_loop [8] (fun i => ∃ k : Nat, k ≤ l.length ∧ i = .int .i64 k ∧ okR (l.drop k) k o = okR l 0 o) (fun i => l.length - (intOf i).toNat)
          case atStart => exact ⟨0, Nat.zero_le _, rfl, rfl⟩
          case round =>
            obtain ⟨k, hk, rfl, hO⟩ := hrel
            by_cases hlt : k < l.length
            · obtain ⟨x, hx⟩ := lookup hlt
              obtain ⟨_, hnil | ⟨bb, off, rfl, hbb, hc⟩⟩ := HLL.out
              · rw [hnil] at hlt; simp at hlt
              have p0 := (hc k x hx).1
              obtain ⟨z, hz2⟩ := lookup (l := o) (k := k) (by omega)
              have c4 := CELL.out k z hz2 hlt
              have OS := okR_step (o := o) hx
              rw [hO] at OS
              have hg : o.getD k 0 = z := by rw [List.getD, hz2]; rfl
              rw [hg] at OS
              clear hx hc hO hz2 hg
              by_cases h24 : x.o = 24
              · have t24 : (x.o == 24) = true := by simp [h24]
                by_cases hneg : z < 0
                · rw [if_pos ⟨h24, hneg⟩] at OS
                  have OO := Lib.hid OS
                  clear OS h24
                  go_wp2_with fail
                  go_ret2
                  exact rends_no (by unfold refE; rw [RR.out]; simp only; rw [OO.out]; rfl) (own_made wr w.heap.size HB.out.size _ rfl) (HB.out.alloc HB.out.size _)
                · rw [if_neg (by omega)] at OS
                  have OO := Lib.hid OS
                  clear OS h24
                  go_wp2_with fail
                  exact ⟨⟨k + 1, by omega, by go_num, OO.out.symm⟩, by simp [intOf]; omega⟩
              · rw [if_neg (by omega)] at OS
                have t24 : (x.o == 24) = false := by simp [h24]
                have OO := Lib.hid OS
                clear OS h24
                go_wp2_with fail
                exact ⟨⟨k + 1, by omega, by go_num, OO.out.symm⟩, by simp [intOf]; omega⟩
            · obtain rfl : k = l.length := by omega
              rw [List.drop_length] at hO
              have OO := Lib.hid (show okR l 0 o = true from hO.symm)
              clear hO hlt
              go_wp2_with fail
              go_ret2
              exact rends_yes (by unfold refE; rw [RR.out]; simp only; rw [OO.out]; rfl) (by unfold OwnI; rw [ho]; exact H4.out) HB.out
end Go.Proofs.Ytlieapapmkbbgaa
