/- Package pintleref42: Goes, for all words. -/
import Derived.Test.YtmlhoagcppofgaaDoorFlA
import Derived.Test.YtmlhoagcppofgaaDoorInstT
namespace Go.Proofs.YtmlhoagcppofgaaDoor
open Go Go.RowKit Pl
set_option linter.unusedVariables false

/-- whether one aims from a place at another one, comes on to it, goes to it -/
def aimQ (q : Q5) (i k : Nat) : Bool := aimO q.o && decide (q.i = 4 * ((k : Int) - (i : Int)))
def comeQ (q : Q5) (i k : Nat) : Bool := decide (q.o ≠ 0) && decide (k = i + 1) && onO q.o
def goesQ (q : Q5) (i k : Nat) : Bool := aimQ q i k || comeQ q i k
def GoesP (q : Q5) (i k : Nat) (W : World) (e : Ending) (W' : World) : Prop := e = .returned (.tuple #[.bool (goesQ q i k), .bool (aimQ q i k)]) ∧ Below W.heap.size W W'
theorem goes_mk {q : Q5} {i k : Nat} {W W' : World} {g a : Bool} (h1 : goesQ q i k = g) (h2 : aimQ q i k = a) (hb : Below W.heap.size W W') : GoesP q i k W (.returned (.tuple #[.bool g, .bool a])) W' := by
  rw [← h1, ← h2]; exact ⟨rfl, hb⟩
theorem words_cell {w : World} {a : Option Addr} {l : List Nat} {c i : Nat} (h : WordsC w a l c) (hi : i < l.length) : ∃ b off, a = some ⟨b, off, none⟩ ∧ b < w.heap.size ∧ w.cell? ⟨b, off + i, none⟩ = some (.int .u32 (l.getD i 0 : Nat)) ∧ l.getD i 0 < 4294967296 := by
  obtain ⟨h1, h2, h3, rfl | ⟨b, off, rfl, hlt, hc⟩⟩ := h
  · simp at hi
  · refine ⟨b, off, rfl, hlt, hc i hi, ?_⟩
    have : l.getD i 0 = l[i] := by simp [List.getD, hi]
    rw [this]; exact h1 _ (List.getElem_mem _)

set_option maxHeartbeats 2000000 in
theorem goes_z (a : Option Addr) (c : Nat) (l : List Nat) (i k : Nat) (W : World) (hw : WordsC W a l c) (hi : i < l.length) (hl : l.length ≤ 1000) (hk : k ≤ 1000) (o d u v im : Int) (hq : qAt l i = ⟨o, d, u, v, im⟩) (hok : okI (l.getD i 0 : Nat) = false) (hm : -2147483648 ≤ im ∧ im ≤ 2147483647) (ho : o = 0) (G A : Bool) (hG : goesQ (qAt l i) i k = G) (hA : aimQ (qAt l i) i k = A) (eG : G = false) (eA : A = false) :
    Calls Tryd.prog 19 #[.slice a l.length c, .int .i64 (i : Nat), .int .i64 (k : Nat)] W (GoesP (qAt l i) i k W) := by
  obtain ⟨b, off, rfl, hb, hc, hx⟩ := words_cell hw hi
  have D := Lib.hid (fun W => rdec_any ((l.getD i 0 : Nat) : Int) W (by omega) (by omega))
  have HO := Lib.hid hok
  have hcl := hw.2.1
  have hcm := hw.2.2.1
  have u0 := IntWalk.i64_in (4 * ((k : Int) - (i : Int))) (by omega)
  have u1 := IntWalk.i64_in ((k : Int) - (i : Int)) (by omega)
  have u2 := IntWalk.i64_in ((i : Int) + 1) (by omega)
  have u3 := IntWalk.i64_in im (by omega)
  subst eG eA
  have HG := Lib.hid hG
  have HA := Lib.hid hA
  generalize hX : l.getD i 0 = X at *
  have QX : decI (X : Int) = ⟨o, d, u, v, im⟩ := by rw [← hq]; unfold qAt; rw [hX]
  have HX := Lib.hid QX
  clear hw hq hok hX QX hG hA
  subst ho
  clear hm
  go_enter Tryd.func19, Tryd.ntmps19
  go_wp2_with fail
  refine (D.out _).mono ?_
  unfold RDecP
  rw [HX.out, HO.out]
  unfold agg5
  rintro e w1 ⟨rfl, hb1⟩
  go_wp2_with fail
  go_ret2
  exact goes_mk HG.out HA.out (below_trans hb1 (by go_grown))

set_option maxHeartbeats 2000000 in
theorem goes_b11 (a : Option Addr) (c : Nat) (l : List Nat) (i k : Nat) (W : World) (hw : WordsC W a l c) (hi : i < l.length) (hl : l.length ≤ 1000) (hk : k ≤ 1000) (o d u v im : Int) (hq : qAt l i = ⟨o, d, u, v, im⟩) (hok : okI (l.getD i 0 : Nat) = true) (hm : -2147483648 ≤ im ∧ im ≤ 2147483647) (h36 : 36 ≤ o) (h41 : o ≤ 41) (hE : im = 4 * ((k : Int) - (i : Int))) (hK : k = i + 1) (G A : Bool) (hG : goesQ (qAt l i) i k = G) (hA : aimQ (qAt l i) i k = A) (eG : G = true) (eA : A = true) :
    Calls Tryd.prog 19 #[.slice a l.length c, .int .i64 (i : Nat), .int .i64 (k : Nat)] W (GoesP (qAt l i) i k W) := by
  obtain ⟨b, off, rfl, hb, hc, hx⟩ := words_cell hw hi
  have D := Lib.hid (fun W => rdec_any ((l.getD i 0 : Nat) : Int) W (by omega) (by omega))
  have HO := Lib.hid hok
  have hcl := hw.2.1
  have hcm := hw.2.2.1
  have u0 := IntWalk.i64_in (4 * ((k : Int) - (i : Int))) (by omega)
  have u1 := IntWalk.i64_in ((k : Int) - (i : Int)) (by omega)
  have u2 := IntWalk.i64_in ((i : Int) + 1) (by omega)
  have u3 := IntWalk.i64_in im (by omega)
  subst eG eA
  have HG := Lib.hid hG
  have HA := Lib.hid hA
  generalize hX : l.getD i 0 = X at *
  have QX : decI (X : Int) = ⟨o, d, u, v, im⟩ := by rw [← hq]; unfold qAt; rw [hX]
  have HX := Lib.hid QX
  clear hw hq hok hX QX hG hA
  have t1 : decide (36 ≤ o) = true := by simp; omega
  have t2 : decide (o ≤ 41) = true := by simp; omega
  have t3 : (o == 44) = false := by simp; omega
  have t4 : (o != 44) = true := by simp; omega
  have t5 : (o != 47) = true := by simp; omega
  have t6 : (o != 48) = true := by simp; omega
  have t5' : (o == 47) = false := by simp; omega
  have t6' : (o == 48) = false := by simp; omega
  clear h36 h41
  have e1 : (im == 4 * ((k : Int) - (i : Int))) = true := by simp; exact hE
  clear hE
  have e2 : ((k : Int) == (i : Int) + 1) = true := by simp; omega
  clear hK
  clear hm
  go_enter Tryd.func19, Tryd.ntmps19
  go_wp2_with fail
  refine (D.out _).mono ?_
  unfold RDecP
  rw [HX.out, HO.out]
  unfold agg5
  rintro e w1 ⟨rfl, hb1⟩
  go_wp2_with fail
  go_ret2
  exact goes_mk HG.out HA.out (below_trans hb1 (by go_grown))

set_option maxHeartbeats 2000000 in
theorem goes_b10 (a : Option Addr) (c : Nat) (l : List Nat) (i k : Nat) (W : World) (hw : WordsC W a l c) (hi : i < l.length) (hl : l.length ≤ 1000) (hk : k ≤ 1000) (o d u v im : Int) (hq : qAt l i = ⟨o, d, u, v, im⟩) (hok : okI (l.getD i 0 : Nat) = true) (hm : -2147483648 ≤ im ∧ im ≤ 2147483647) (h36 : 36 ≤ o) (h41 : o ≤ 41) (hE : im = 4 * ((k : Int) - (i : Int))) (hK : ¬ k = i + 1) (G A : Bool) (hG : goesQ (qAt l i) i k = G) (hA : aimQ (qAt l i) i k = A) (eG : G = true) (eA : A = true) :
    Calls Tryd.prog 19 #[.slice a l.length c, .int .i64 (i : Nat), .int .i64 (k : Nat)] W (GoesP (qAt l i) i k W) := by
  obtain ⟨b, off, rfl, hb, hc, hx⟩ := words_cell hw hi
  have D := Lib.hid (fun W => rdec_any ((l.getD i 0 : Nat) : Int) W (by omega) (by omega))
  have HO := Lib.hid hok
  have hcl := hw.2.1
  have hcm := hw.2.2.1
  have u0 := IntWalk.i64_in (4 * ((k : Int) - (i : Int))) (by omega)
  have u1 := IntWalk.i64_in ((k : Int) - (i : Int)) (by omega)
  have u2 := IntWalk.i64_in ((i : Int) + 1) (by omega)
  have u3 := IntWalk.i64_in im (by omega)
  subst eG eA
  have HG := Lib.hid hG
  have HA := Lib.hid hA
  generalize hX : l.getD i 0 = X at *
  have QX : decI (X : Int) = ⟨o, d, u, v, im⟩ := by rw [← hq]; unfold qAt; rw [hX]
  have HX := Lib.hid QX
  clear hw hq hok hX QX hG hA
  have t1 : decide (36 ≤ o) = true := by simp; omega
  have t2 : decide (o ≤ 41) = true := by simp; omega
  have t3 : (o == 44) = false := by simp; omega
  have t4 : (o != 44) = true := by simp; omega
  have t5 : (o != 47) = true := by simp; omega
  have t6 : (o != 48) = true := by simp; omega
  have t5' : (o == 47) = false := by simp; omega
  have t6' : (o == 48) = false := by simp; omega
  clear h36 h41
  have e1 : (im == 4 * ((k : Int) - (i : Int))) = true := by simp; exact hE
  clear hE
  have e2 : ((k : Int) == (i : Int) + 1) = false := by simp; omega
  clear hK
  clear hm
  go_enter Tryd.func19, Tryd.ntmps19
  go_wp2_with fail
  refine (D.out _).mono ?_
  unfold RDecP
  rw [HX.out, HO.out]
  unfold agg5
  rintro e w1 ⟨rfl, hb1⟩
  go_wp2_with fail
  go_ret2
  exact goes_mk HG.out HA.out (below_trans hb1 (by go_grown))

set_option maxHeartbeats 2000000 in
theorem goes_b01 (a : Option Addr) (c : Nat) (l : List Nat) (i k : Nat) (W : World) (hw : WordsC W a l c) (hi : i < l.length) (hl : l.length ≤ 1000) (hk : k ≤ 1000) (o d u v im : Int) (hq : qAt l i = ⟨o, d, u, v, im⟩) (hok : okI (l.getD i 0 : Nat) = true) (hm : -2147483648 ≤ im ∧ im ≤ 2147483647) (h36 : 36 ≤ o) (h41 : o ≤ 41) (hE : ¬ im = 4 * ((k : Int) - (i : Int))) (hK : k = i + 1) (G A : Bool) (hG : goesQ (qAt l i) i k = G) (hA : aimQ (qAt l i) i k = A) (eG : G = true) (eA : A = false) :
    Calls Tryd.prog 19 #[.slice a l.length c, .int .i64 (i : Nat), .int .i64 (k : Nat)] W (GoesP (qAt l i) i k W) := by
  obtain ⟨b, off, rfl, hb, hc, hx⟩ := words_cell hw hi
  have D := Lib.hid (fun W => rdec_any ((l.getD i 0 : Nat) : Int) W (by omega) (by omega))
  have HO := Lib.hid hok
  have hcl := hw.2.1
  have hcm := hw.2.2.1
  have u0 := IntWalk.i64_in (4 * ((k : Int) - (i : Int))) (by omega)
  have u1 := IntWalk.i64_in ((k : Int) - (i : Int)) (by omega)
  have u2 := IntWalk.i64_in ((i : Int) + 1) (by omega)
  have u3 := IntWalk.i64_in im (by omega)
  subst eG eA
  have HG := Lib.hid hG
  have HA := Lib.hid hA
  generalize hX : l.getD i 0 = X at *
  have QX : decI (X : Int) = ⟨o, d, u, v, im⟩ := by rw [← hq]; unfold qAt; rw [hX]
  have HX := Lib.hid QX
  clear hw hq hok hX QX hG hA
  have t1 : decide (36 ≤ o) = true := by simp; omega
  have t2 : decide (o ≤ 41) = true := by simp; omega
  have t3 : (o == 44) = false := by simp; omega
  have t4 : (o != 44) = true := by simp; omega
  have t5 : (o != 47) = true := by simp; omega
  have t6 : (o != 48) = true := by simp; omega
  have t5' : (o == 47) = false := by simp; omega
  have t6' : (o == 48) = false := by simp; omega
  clear h36 h41
  have e1 : (im == 4 * ((k : Int) - (i : Int))) = false := by simp; exact hE
  clear hE
  have e2 : ((k : Int) == (i : Int) + 1) = true := by simp; omega
  clear hK
  clear hm
  go_enter Tryd.func19, Tryd.ntmps19
  go_wp2_with fail
  refine (D.out _).mono ?_
  unfold RDecP
  rw [HX.out, HO.out]
  unfold agg5
  rintro e w1 ⟨rfl, hb1⟩
  go_wp2_with fail
  go_ret2
  exact goes_mk HG.out HA.out (below_trans hb1 (by go_grown))

set_option maxHeartbeats 2000000 in
theorem goes_b00 (a : Option Addr) (c : Nat) (l : List Nat) (i k : Nat) (W : World) (hw : WordsC W a l c) (hi : i < l.length) (hl : l.length ≤ 1000) (hk : k ≤ 1000) (o d u v im : Int) (hq : qAt l i = ⟨o, d, u, v, im⟩) (hok : okI (l.getD i 0 : Nat) = true) (hm : -2147483648 ≤ im ∧ im ≤ 2147483647) (h36 : 36 ≤ o) (h41 : o ≤ 41) (hE : ¬ im = 4 * ((k : Int) - (i : Int))) (hK : ¬ k = i + 1) (G A : Bool) (hG : goesQ (qAt l i) i k = G) (hA : aimQ (qAt l i) i k = A) (eG : G = false) (eA : A = false) :
    Calls Tryd.prog 19 #[.slice a l.length c, .int .i64 (i : Nat), .int .i64 (k : Nat)] W (GoesP (qAt l i) i k W) := by
  obtain ⟨b, off, rfl, hb, hc, hx⟩ := words_cell hw hi
  have D := Lib.hid (fun W => rdec_any ((l.getD i 0 : Nat) : Int) W (by omega) (by omega))
  have HO := Lib.hid hok
  have hcl := hw.2.1
  have hcm := hw.2.2.1
  have u0 := IntWalk.i64_in (4 * ((k : Int) - (i : Int))) (by omega)
  have u1 := IntWalk.i64_in ((k : Int) - (i : Int)) (by omega)
  have u2 := IntWalk.i64_in ((i : Int) + 1) (by omega)
  have u3 := IntWalk.i64_in im (by omega)
  subst eG eA
  have HG := Lib.hid hG
  have HA := Lib.hid hA
  generalize hX : l.getD i 0 = X at *
  have QX : decI (X : Int) = ⟨o, d, u, v, im⟩ := by rw [← hq]; unfold qAt; rw [hX]
  have HX := Lib.hid QX
  clear hw hq hok hX QX hG hA
  have t1 : decide (36 ≤ o) = true := by simp; omega
  have t2 : decide (o ≤ 41) = true := by simp; omega
  have t3 : (o == 44) = false := by simp; omega
  have t4 : (o != 44) = true := by simp; omega
  have t5 : (o != 47) = true := by simp; omega
  have t6 : (o != 48) = true := by simp; omega
  have t5' : (o == 47) = false := by simp; omega
  have t6' : (o == 48) = false := by simp; omega
  clear h36 h41
  have e1 : (im == 4 * ((k : Int) - (i : Int))) = false := by simp; exact hE
  clear hE
  have e2 : ((k : Int) == (i : Int) + 1) = false := by simp; omega
  clear hK
  clear hm
  go_enter Tryd.func19, Tryd.ntmps19
  go_wp2_with fail
  refine (D.out _).mono ?_
  unfold RDecP
  rw [HX.out, HO.out]
  unfold agg5
  rintro e w1 ⟨rfl, hb1⟩
  go_wp2_with fail
  go_ret2
  exact goes_mk HG.out HA.out (below_trans hb1 (by go_grown))

set_option maxHeartbeats 2000000 in
theorem goes_j11 (a : Option Addr) (c : Nat) (l : List Nat) (i k : Nat) (W : World) (hw : WordsC W a l c) (hi : i < l.length) (hl : l.length ≤ 1000) (hk : k ≤ 1000) (o d u v im : Int) (hq : qAt l i = ⟨o, d, u, v, im⟩) (hok : okI (l.getD i 0 : Nat) = true) (hm : -2147483648 ≤ im ∧ im ≤ 2147483647) (ho : o = 44) (hE : im = 4 * ((k : Int) - (i : Int))) (hK : k = i + 1) (G A : Bool) (hG : goesQ (qAt l i) i k = G) (hA : aimQ (qAt l i) i k = A) (eG : G = true) (eA : A = true) :
    Calls Tryd.prog 19 #[.slice a l.length c, .int .i64 (i : Nat), .int .i64 (k : Nat)] W (GoesP (qAt l i) i k W) := by
  obtain ⟨b, off, rfl, hb, hc, hx⟩ := words_cell hw hi
  have D := Lib.hid (fun W => rdec_any ((l.getD i 0 : Nat) : Int) W (by omega) (by omega))
  have HO := Lib.hid hok
  have hcl := hw.2.1
  have hcm := hw.2.2.1
  have u0 := IntWalk.i64_in (4 * ((k : Int) - (i : Int))) (by omega)
  have u1 := IntWalk.i64_in ((k : Int) - (i : Int)) (by omega)
  have u2 := IntWalk.i64_in ((i : Int) + 1) (by omega)
  have u3 := IntWalk.i64_in im (by omega)
  subst eG eA
  have HG := Lib.hid hG
  have HA := Lib.hid hA
  generalize hX : l.getD i 0 = X at *
  have QX : decI (X : Int) = ⟨o, d, u, v, im⟩ := by rw [← hq]; unfold qAt; rw [hX]
  have HX := Lib.hid QX
  clear hw hq hok hX QX hG hA
  subst ho
  have e1 : (im == 4 * ((k : Int) - (i : Int))) = true := by simp; exact hE
  clear hE
  have e2 : ((k : Int) == (i : Int) + 1) = true := by simp; omega
  clear hK
  clear hm
  go_enter Tryd.func19, Tryd.ntmps19
  go_wp2_with fail
  refine (D.out _).mono ?_
  unfold RDecP
  rw [HX.out, HO.out]
  unfold agg5
  rintro e w1 ⟨rfl, hb1⟩
  go_wp2_with fail
  go_ret2
  exact goes_mk HG.out HA.out (below_trans hb1 (by go_grown))

set_option maxHeartbeats 2000000 in
theorem goes_j10 (a : Option Addr) (c : Nat) (l : List Nat) (i k : Nat) (W : World) (hw : WordsC W a l c) (hi : i < l.length) (hl : l.length ≤ 1000) (hk : k ≤ 1000) (o d u v im : Int) (hq : qAt l i = ⟨o, d, u, v, im⟩) (hok : okI (l.getD i 0 : Nat) = true) (hm : -2147483648 ≤ im ∧ im ≤ 2147483647) (ho : o = 44) (hE : im = 4 * ((k : Int) - (i : Int))) (hK : ¬ k = i + 1) (G A : Bool) (hG : goesQ (qAt l i) i k = G) (hA : aimQ (qAt l i) i k = A) (eG : G = true) (eA : A = true) :
    Calls Tryd.prog 19 #[.slice a l.length c, .int .i64 (i : Nat), .int .i64 (k : Nat)] W (GoesP (qAt l i) i k W) := by
  obtain ⟨b, off, rfl, hb, hc, hx⟩ := words_cell hw hi
  have D := Lib.hid (fun W => rdec_any ((l.getD i 0 : Nat) : Int) W (by omega) (by omega))
  have HO := Lib.hid hok
  have hcl := hw.2.1
  have hcm := hw.2.2.1
  have u0 := IntWalk.i64_in (4 * ((k : Int) - (i : Int))) (by omega)
  have u1 := IntWalk.i64_in ((k : Int) - (i : Int)) (by omega)
  have u2 := IntWalk.i64_in ((i : Int) + 1) (by omega)
  have u3 := IntWalk.i64_in im (by omega)
  subst eG eA
  have HG := Lib.hid hG
  have HA := Lib.hid hA
  generalize hX : l.getD i 0 = X at *
  have QX : decI (X : Int) = ⟨o, d, u, v, im⟩ := by rw [← hq]; unfold qAt; rw [hX]
  have HX := Lib.hid QX
  clear hw hq hok hX QX hG hA
  subst ho
  have e1 : (im == 4 * ((k : Int) - (i : Int))) = true := by simp; exact hE
  clear hE
  have e2 : ((k : Int) == (i : Int) + 1) = false := by simp; omega
  clear hK
  clear hm
  go_enter Tryd.func19, Tryd.ntmps19
  go_wp2_with fail
  refine (D.out _).mono ?_
  unfold RDecP
  rw [HX.out, HO.out]
  unfold agg5
  rintro e w1 ⟨rfl, hb1⟩
  go_wp2_with fail
  go_ret2
  exact goes_mk HG.out HA.out (below_trans hb1 (by go_grown))

set_option maxHeartbeats 2000000 in
theorem goes_j01 (a : Option Addr) (c : Nat) (l : List Nat) (i k : Nat) (W : World) (hw : WordsC W a l c) (hi : i < l.length) (hl : l.length ≤ 1000) (hk : k ≤ 1000) (o d u v im : Int) (hq : qAt l i = ⟨o, d, u, v, im⟩) (hok : okI (l.getD i 0 : Nat) = true) (hm : -2147483648 ≤ im ∧ im ≤ 2147483647) (ho : o = 44) (hE : ¬ im = 4 * ((k : Int) - (i : Int))) (hK : k = i + 1) (G A : Bool) (hG : goesQ (qAt l i) i k = G) (hA : aimQ (qAt l i) i k = A) (eG : G = false) (eA : A = false) :
    Calls Tryd.prog 19 #[.slice a l.length c, .int .i64 (i : Nat), .int .i64 (k : Nat)] W (GoesP (qAt l i) i k W) := by
  obtain ⟨b, off, rfl, hb, hc, hx⟩ := words_cell hw hi
  have D := Lib.hid (fun W => rdec_any ((l.getD i 0 : Nat) : Int) W (by omega) (by omega))
  have HO := Lib.hid hok
  have hcl := hw.2.1
  have hcm := hw.2.2.1
  have u0 := IntWalk.i64_in (4 * ((k : Int) - (i : Int))) (by omega)
  have u1 := IntWalk.i64_in ((k : Int) - (i : Int)) (by omega)
  have u2 := IntWalk.i64_in ((i : Int) + 1) (by omega)
  have u3 := IntWalk.i64_in im (by omega)
  subst eG eA
  have HG := Lib.hid hG
  have HA := Lib.hid hA
  generalize hX : l.getD i 0 = X at *
  have QX : decI (X : Int) = ⟨o, d, u, v, im⟩ := by rw [← hq]; unfold qAt; rw [hX]
  have HX := Lib.hid QX
  clear hw hq hok hX QX hG hA
  subst ho
  have e1 : (im == 4 * ((k : Int) - (i : Int))) = false := by simp; exact hE
  clear hE
  have e2 : ((k : Int) == (i : Int) + 1) = true := by simp; omega
  clear hK
  clear hm
  go_enter Tryd.func19, Tryd.ntmps19
  go_wp2_with fail
  refine (D.out _).mono ?_
  unfold RDecP
  rw [HX.out, HO.out]
  unfold agg5
  rintro e w1 ⟨rfl, hb1⟩
  go_wp2_with fail
  go_ret2
  exact goes_mk HG.out HA.out (below_trans hb1 (by go_grown))

set_option maxHeartbeats 2000000 in
theorem goes_j00 (a : Option Addr) (c : Nat) (l : List Nat) (i k : Nat) (W : World) (hw : WordsC W a l c) (hi : i < l.length) (hl : l.length ≤ 1000) (hk : k ≤ 1000) (o d u v im : Int) (hq : qAt l i = ⟨o, d, u, v, im⟩) (hok : okI (l.getD i 0 : Nat) = true) (hm : -2147483648 ≤ im ∧ im ≤ 2147483647) (ho : o = 44) (hE : ¬ im = 4 * ((k : Int) - (i : Int))) (hK : ¬ k = i + 1) (G A : Bool) (hG : goesQ (qAt l i) i k = G) (hA : aimQ (qAt l i) i k = A) (eG : G = false) (eA : A = false) :
    Calls Tryd.prog 19 #[.slice a l.length c, .int .i64 (i : Nat), .int .i64 (k : Nat)] W (GoesP (qAt l i) i k W) := by
  obtain ⟨b, off, rfl, hb, hc, hx⟩ := words_cell hw hi
  have D := Lib.hid (fun W => rdec_any ((l.getD i 0 : Nat) : Int) W (by omega) (by omega))
  have HO := Lib.hid hok
  have hcl := hw.2.1
  have hcm := hw.2.2.1
  have u0 := IntWalk.i64_in (4 * ((k : Int) - (i : Int))) (by omega)
  have u1 := IntWalk.i64_in ((k : Int) - (i : Int)) (by omega)
  have u2 := IntWalk.i64_in ((i : Int) + 1) (by omega)
  have u3 := IntWalk.i64_in im (by omega)
  subst eG eA
  have HG := Lib.hid hG
  have HA := Lib.hid hA
  generalize hX : l.getD i 0 = X at *
  have QX : decI (X : Int) = ⟨o, d, u, v, im⟩ := by rw [← hq]; unfold qAt; rw [hX]
  have HX := Lib.hid QX
  clear hw hq hok hX QX hG hA
  subst ho
  have e1 : (im == 4 * ((k : Int) - (i : Int))) = false := by simp; exact hE
  clear hE
  have e2 : ((k : Int) == (i : Int) + 1) = false := by simp; omega
  clear hK
  clear hm
  go_enter Tryd.func19, Tryd.ntmps19
  go_wp2_with fail
  refine (D.out _).mono ?_
  unfold RDecP
  rw [HX.out, HO.out]
  unfold agg5
  rintro e w1 ⟨rfl, hb1⟩
  go_wp2_with fail
  go_ret2
  exact goes_mk HG.out HA.out (below_trans hb1 (by go_grown))

set_option maxHeartbeats 2000000 in
theorem goes_c1 (a : Option Addr) (c : Nat) (l : List Nat) (i k : Nat) (W : World) (hw : WordsC W a l c) (hi : i < l.length) (hl : l.length ≤ 1000) (hk : k ≤ 1000) (o d u v im : Int) (hq : qAt l i = ⟨o, d, u, v, im⟩) (hok : okI (l.getD i 0 : Nat) = true) (hm : -2147483648 ≤ im ∧ im ≤ 2147483647) (ho : o = 47) (hK : k = i + 1) (G A : Bool) (hG : goesQ (qAt l i) i k = G) (hA : aimQ (qAt l i) i k = A) (eG : G = false) (eA : A = false) :
    Calls Tryd.prog 19 #[.slice a l.length c, .int .i64 (i : Nat), .int .i64 (k : Nat)] W (GoesP (qAt l i) i k W) := by
  obtain ⟨b, off, rfl, hb, hc, hx⟩ := words_cell hw hi
  have D := Lib.hid (fun W => rdec_any ((l.getD i 0 : Nat) : Int) W (by omega) (by omega))
  have HO := Lib.hid hok
  have hcl := hw.2.1
  have hcm := hw.2.2.1
  have u0 := IntWalk.i64_in (4 * ((k : Int) - (i : Int))) (by omega)
  have u1 := IntWalk.i64_in ((k : Int) - (i : Int)) (by omega)
  have u2 := IntWalk.i64_in ((i : Int) + 1) (by omega)
  have u3 := IntWalk.i64_in im (by omega)
  subst eG eA
  have HG := Lib.hid hG
  have HA := Lib.hid hA
  generalize hX : l.getD i 0 = X at *
  have QX : decI (X : Int) = ⟨o, d, u, v, im⟩ := by rw [← hq]; unfold qAt; rw [hX]
  have HX := Lib.hid QX
  clear hw hq hok hX QX hG hA
  subst ho
  have e2 : ((k : Int) == (i : Int) + 1) = true := by simp; omega
  clear hK
  clear hm
  go_enter Tryd.func19, Tryd.ntmps19
  go_wp2_with fail
  refine (D.out _).mono ?_
  unfold RDecP
  rw [HX.out, HO.out]
  unfold agg5
  rintro e w1 ⟨rfl, hb1⟩
  go_wp2_with fail
  go_ret2
  exact goes_mk HG.out HA.out (below_trans hb1 (by go_grown))

set_option maxHeartbeats 2000000 in
theorem goes_c0 (a : Option Addr) (c : Nat) (l : List Nat) (i k : Nat) (W : World) (hw : WordsC W a l c) (hi : i < l.length) (hl : l.length ≤ 1000) (hk : k ≤ 1000) (o d u v im : Int) (hq : qAt l i = ⟨o, d, u, v, im⟩) (hok : okI (l.getD i 0 : Nat) = true) (hm : -2147483648 ≤ im ∧ im ≤ 2147483647) (ho : o = 47) (hK : ¬ k = i + 1) (G A : Bool) (hG : goesQ (qAt l i) i k = G) (hA : aimQ (qAt l i) i k = A) (eG : G = false) (eA : A = false) :
    Calls Tryd.prog 19 #[.slice a l.length c, .int .i64 (i : Nat), .int .i64 (k : Nat)] W (GoesP (qAt l i) i k W) := by
  obtain ⟨b, off, rfl, hb, hc, hx⟩ := words_cell hw hi
  have D := Lib.hid (fun W => rdec_any ((l.getD i 0 : Nat) : Int) W (by omega) (by omega))
  have HO := Lib.hid hok
  have hcl := hw.2.1
  have hcm := hw.2.2.1
  have u0 := IntWalk.i64_in (4 * ((k : Int) - (i : Int))) (by omega)
  have u1 := IntWalk.i64_in ((k : Int) - (i : Int)) (by omega)
  have u2 := IntWalk.i64_in ((i : Int) + 1) (by omega)
  have u3 := IntWalk.i64_in im (by omega)
  subst eG eA
  have HG := Lib.hid hG
  have HA := Lib.hid hA
  generalize hX : l.getD i 0 = X at *
  have QX : decI (X : Int) = ⟨o, d, u, v, im⟩ := by rw [← hq]; unfold qAt; rw [hX]
  have HX := Lib.hid QX
  clear hw hq hok hX QX hG hA
  subst ho
  have e2 : ((k : Int) == (i : Int) + 1) = false := by simp; omega
  clear hK
  clear hm
  go_enter Tryd.func19, Tryd.ntmps19
  go_wp2_with fail
  refine (D.out _).mono ?_
  unfold RDecP
  rw [HX.out, HO.out]
  unfold agg5
  rintro e w1 ⟨rfl, hb1⟩
  go_wp2_with fail
  go_ret2
  exact goes_mk HG.out HA.out (below_trans hb1 (by go_grown))

set_option maxHeartbeats 2000000 in
theorem goes_e1 (a : Option Addr) (c : Nat) (l : List Nat) (i k : Nat) (W : World) (hw : WordsC W a l c) (hi : i < l.length) (hl : l.length ≤ 1000) (hk : k ≤ 1000) (o d u v im : Int) (hq : qAt l i = ⟨o, d, u, v, im⟩) (hok : okI (l.getD i 0 : Nat) = true) (hm : -2147483648 ≤ im ∧ im ≤ 2147483647) (ho : o = 48) (hK : k = i + 1) (G A : Bool) (hG : goesQ (qAt l i) i k = G) (hA : aimQ (qAt l i) i k = A) (eG : G = false) (eA : A = false) :
    Calls Tryd.prog 19 #[.slice a l.length c, .int .i64 (i : Nat), .int .i64 (k : Nat)] W (GoesP (qAt l i) i k W) := by
  obtain ⟨b, off, rfl, hb, hc, hx⟩ := words_cell hw hi
  have D := Lib.hid (fun W => rdec_any ((l.getD i 0 : Nat) : Int) W (by omega) (by omega))
  have HO := Lib.hid hok
  have hcl := hw.2.1
  have hcm := hw.2.2.1
  have u0 := IntWalk.i64_in (4 * ((k : Int) - (i : Int))) (by omega)
  have u1 := IntWalk.i64_in ((k : Int) - (i : Int)) (by omega)
  have u2 := IntWalk.i64_in ((i : Int) + 1) (by omega)
  have u3 := IntWalk.i64_in im (by omega)
  subst eG eA
  have HG := Lib.hid hG
  have HA := Lib.hid hA
  generalize hX : l.getD i 0 = X at *
  have QX : decI (X : Int) = ⟨o, d, u, v, im⟩ := by rw [← hq]; unfold qAt; rw [hX]
  have HX := Lib.hid QX
  clear hw hq hok hX QX hG hA
  subst ho
  have e2 : ((k : Int) == (i : Int) + 1) = true := by simp; omega
  clear hK
  clear hm
  go_enter Tryd.func19, Tryd.ntmps19
  go_wp2_with fail
  refine (D.out _).mono ?_
  unfold RDecP
  rw [HX.out, HO.out]
  unfold agg5
  rintro e w1 ⟨rfl, hb1⟩
  go_wp2_with fail
  go_ret2
  exact goes_mk HG.out HA.out (below_trans hb1 (by go_grown))

set_option maxHeartbeats 2000000 in
theorem goes_e0 (a : Option Addr) (c : Nat) (l : List Nat) (i k : Nat) (W : World) (hw : WordsC W a l c) (hi : i < l.length) (hl : l.length ≤ 1000) (hk : k ≤ 1000) (o d u v im : Int) (hq : qAt l i = ⟨o, d, u, v, im⟩) (hok : okI (l.getD i 0 : Nat) = true) (hm : -2147483648 ≤ im ∧ im ≤ 2147483647) (ho : o = 48) (hK : ¬ k = i + 1) (G A : Bool) (hG : goesQ (qAt l i) i k = G) (hA : aimQ (qAt l i) i k = A) (eG : G = false) (eA : A = false) :
    Calls Tryd.prog 19 #[.slice a l.length c, .int .i64 (i : Nat), .int .i64 (k : Nat)] W (GoesP (qAt l i) i k W) := by
  obtain ⟨b, off, rfl, hb, hc, hx⟩ := words_cell hw hi
  have D := Lib.hid (fun W => rdec_any ((l.getD i 0 : Nat) : Int) W (by omega) (by omega))
  have HO := Lib.hid hok
  have hcl := hw.2.1
  have hcm := hw.2.2.1
  have u0 := IntWalk.i64_in (4 * ((k : Int) - (i : Int))) (by omega)
  have u1 := IntWalk.i64_in ((k : Int) - (i : Int)) (by omega)
  have u2 := IntWalk.i64_in ((i : Int) + 1) (by omega)
  have u3 := IntWalk.i64_in im (by omega)
  subst eG eA
  have HG := Lib.hid hG
  have HA := Lib.hid hA
  generalize hX : l.getD i 0 = X at *
  have QX : decI (X : Int) = ⟨o, d, u, v, im⟩ := by rw [← hq]; unfold qAt; rw [hX]
  have HX := Lib.hid QX
  clear hw hq hok hX QX hG hA
  subst ho
  have e2 : ((k : Int) == (i : Int) + 1) = false := by simp; omega
  clear hK
  clear hm
  go_enter Tryd.func19, Tryd.ntmps19
  go_wp2_with fail
  refine (D.out _).mono ?_
  unfold RDecP
  rw [HX.out, HO.out]
  unfold agg5
  rintro e w1 ⟨rfl, hb1⟩
  go_wp2_with fail
  go_ret2
  exact goes_mk HG.out HA.out (below_trans hb1 (by go_grown))

set_option maxHeartbeats 2000000 in
theorem goes_l1 (a : Option Addr) (c : Nat) (l : List Nat) (i k : Nat) (W : World) (hw : WordsC W a l c) (hi : i < l.length) (hl : l.length ≤ 1000) (hk : k ≤ 1000) (o d u v im : Int) (hq : qAt l i = ⟨o, d, u, v, im⟩) (hok : okI (l.getD i 0 : Nat) = true) (hm : -2147483648 ≤ im ∧ im ≤ 2147483647) (h : o < 36) (h0 : o ≠ 0) (hK : k = i + 1) (G A : Bool) (hG : goesQ (qAt l i) i k = G) (hA : aimQ (qAt l i) i k = A) (eG : G = true) (eA : A = false) :
    Calls Tryd.prog 19 #[.slice a l.length c, .int .i64 (i : Nat), .int .i64 (k : Nat)] W (GoesP (qAt l i) i k W) := by
  obtain ⟨b, off, rfl, hb, hc, hx⟩ := words_cell hw hi
  have D := Lib.hid (fun W => rdec_any ((l.getD i 0 : Nat) : Int) W (by omega) (by omega))
  have HO := Lib.hid hok
  have hcl := hw.2.1
  have hcm := hw.2.2.1
  have u0 := IntWalk.i64_in (4 * ((k : Int) - (i : Int))) (by omega)
  have u1 := IntWalk.i64_in ((k : Int) - (i : Int)) (by omega)
  have u2 := IntWalk.i64_in ((i : Int) + 1) (by omega)
  have u3 := IntWalk.i64_in im (by omega)
  subst eG eA
  have HG := Lib.hid hG
  have HA := Lib.hid hA
  generalize hX : l.getD i 0 = X at *
  have QX : decI (X : Int) = ⟨o, d, u, v, im⟩ := by rw [← hq]; unfold qAt; rw [hX]
  have HX := Lib.hid QX
  clear hw hq hok hX QX hG hA
  have t1 : decide (36 ≤ o) = false := by simp; omega
  have t3 : (o == 44) = false := by simp; omega
  have t4 : (o != 44) = true := by simp; omega
  have t5 : (o != 47) = true := by simp; omega
  have t6 : (o != 48) = true := by simp; omega
  have t5' : (o == 47) = false := by simp; omega
  have t6' : (o == 48) = false := by simp; omega
  clear h h0
  have e2 : ((k : Int) == (i : Int) + 1) = true := by simp; omega
  clear hK
  clear hm
  go_enter Tryd.func19, Tryd.ntmps19
  go_wp2_with fail
  refine (D.out _).mono ?_
  unfold RDecP
  rw [HX.out, HO.out]
  unfold agg5
  rintro e w1 ⟨rfl, hb1⟩
  go_wp2_with fail
  go_ret2
  exact goes_mk HG.out HA.out (below_trans hb1 (by go_grown))

set_option maxHeartbeats 2000000 in
theorem goes_l0 (a : Option Addr) (c : Nat) (l : List Nat) (i k : Nat) (W : World) (hw : WordsC W a l c) (hi : i < l.length) (hl : l.length ≤ 1000) (hk : k ≤ 1000) (o d u v im : Int) (hq : qAt l i = ⟨o, d, u, v, im⟩) (hok : okI (l.getD i 0 : Nat) = true) (hm : -2147483648 ≤ im ∧ im ≤ 2147483647) (h : o < 36) (h0 : o ≠ 0) (hK : ¬ k = i + 1) (G A : Bool) (hG : goesQ (qAt l i) i k = G) (hA : aimQ (qAt l i) i k = A) (eG : G = false) (eA : A = false) :
    Calls Tryd.prog 19 #[.slice a l.length c, .int .i64 (i : Nat), .int .i64 (k : Nat)] W (GoesP (qAt l i) i k W) := by
  obtain ⟨b, off, rfl, hb, hc, hx⟩ := words_cell hw hi
  have D := Lib.hid (fun W => rdec_any ((l.getD i 0 : Nat) : Int) W (by omega) (by omega))
  have HO := Lib.hid hok
  have hcl := hw.2.1
  have hcm := hw.2.2.1
  have u0 := IntWalk.i64_in (4 * ((k : Int) - (i : Int))) (by omega)
  have u1 := IntWalk.i64_in ((k : Int) - (i : Int)) (by omega)
  have u2 := IntWalk.i64_in ((i : Int) + 1) (by omega)
  have u3 := IntWalk.i64_in im (by omega)
  subst eG eA
  have HG := Lib.hid hG
  have HA := Lib.hid hA
  generalize hX : l.getD i 0 = X at *
  have QX : decI (X : Int) = ⟨o, d, u, v, im⟩ := by rw [← hq]; unfold qAt; rw [hX]
  have HX := Lib.hid QX
  clear hw hq hok hX QX hG hA
  have t1 : decide (36 ≤ o) = false := by simp; omega
  have t3 : (o == 44) = false := by simp; omega
  have t4 : (o != 44) = true := by simp; omega
  have t5 : (o != 47) = true := by simp; omega
  have t6 : (o != 48) = true := by simp; omega
  have t5' : (o == 47) = false := by simp; omega
  have t6' : (o == 48) = false := by simp; omega
  clear h h0
  have e2 : ((k : Int) == (i : Int) + 1) = false := by simp; omega
  clear hK
  clear hm
  go_enter Tryd.func19, Tryd.ntmps19
  go_wp2_with fail
  refine (D.out _).mono ?_
  unfold RDecP
  rw [HX.out, HO.out]
  unfold agg5
  rintro e w1 ⟨rfl, hb1⟩
  go_wp2_with fail
  go_ret2
  exact goes_mk HG.out HA.out (below_trans hb1 (by go_grown))

set_option maxHeartbeats 2000000 in
theorem goes_h1 (a : Option Addr) (c : Nat) (l : List Nat) (i k : Nat) (W : World) (hw : WordsC W a l c) (hi : i < l.length) (hl : l.length ≤ 1000) (hk : k ≤ 1000) (o d u v im : Int) (hq : qAt l i = ⟨o, d, u, v, im⟩) (hok : okI (l.getD i 0 : Nat) = true) (hm : -2147483648 ≤ im ∧ im ≤ 2147483647) (h : 41 < o) (h4 : o ≠ 44) (h7 : o ≠ 47) (h8 : o ≠ 48) (hK : k = i + 1) (G A : Bool) (hG : goesQ (qAt l i) i k = G) (hA : aimQ (qAt l i) i k = A) (eG : G = true) (eA : A = false) :
    Calls Tryd.prog 19 #[.slice a l.length c, .int .i64 (i : Nat), .int .i64 (k : Nat)] W (GoesP (qAt l i) i k W) := by
  obtain ⟨b, off, rfl, hb, hc, hx⟩ := words_cell hw hi
  have D := Lib.hid (fun W => rdec_any ((l.getD i 0 : Nat) : Int) W (by omega) (by omega))
  have HO := Lib.hid hok
  have hcl := hw.2.1
  have hcm := hw.2.2.1
  have u0 := IntWalk.i64_in (4 * ((k : Int) - (i : Int))) (by omega)
  have u1 := IntWalk.i64_in ((k : Int) - (i : Int)) (by omega)
  have u2 := IntWalk.i64_in ((i : Int) + 1) (by omega)
  have u3 := IntWalk.i64_in im (by omega)
  subst eG eA
  have HG := Lib.hid hG
  have HA := Lib.hid hA
  generalize hX : l.getD i 0 = X at *
  have QX : decI (X : Int) = ⟨o, d, u, v, im⟩ := by rw [← hq]; unfold qAt; rw [hX]
  have HX := Lib.hid QX
  clear hw hq hok hX QX hG hA
  have t1 : decide (36 ≤ o) = true := by simp; omega
  have t2 : decide (o ≤ 41) = false := by simp; omega
  have t3 : (o == 44) = false := by simp; omega
  have t4 : (o != 44) = true := by simp; omega
  have t5 : (o != 47) = true := by simp; omega
  have t6 : (o != 48) = true := by simp; omega
  have t5' : (o == 47) = false := by simp; omega
  have t6' : (o == 48) = false := by simp; omega
  clear h h4 h7 h8
  have e2 : ((k : Int) == (i : Int) + 1) = true := by simp; omega
  clear hK
  clear hm
  go_enter Tryd.func19, Tryd.ntmps19
  go_wp2_with fail
  refine (D.out _).mono ?_
  unfold RDecP
  rw [HX.out, HO.out]
  unfold agg5
  rintro e w1 ⟨rfl, hb1⟩
  go_wp2_with fail
  go_ret2
  exact goes_mk HG.out HA.out (below_trans hb1 (by go_grown))

set_option maxHeartbeats 2000000 in
theorem goes_h0 (a : Option Addr) (c : Nat) (l : List Nat) (i k : Nat) (W : World) (hw : WordsC W a l c) (hi : i < l.length) (hl : l.length ≤ 1000) (hk : k ≤ 1000) (o d u v im : Int) (hq : qAt l i = ⟨o, d, u, v, im⟩) (hok : okI (l.getD i 0 : Nat) = true) (hm : -2147483648 ≤ im ∧ im ≤ 2147483647) (h : 41 < o) (h4 : o ≠ 44) (h7 : o ≠ 47) (h8 : o ≠ 48) (hK : ¬ k = i + 1) (G A : Bool) (hG : goesQ (qAt l i) i k = G) (hA : aimQ (qAt l i) i k = A) (eG : G = false) (eA : A = false) :
    Calls Tryd.prog 19 #[.slice a l.length c, .int .i64 (i : Nat), .int .i64 (k : Nat)] W (GoesP (qAt l i) i k W) := by
  obtain ⟨b, off, rfl, hb, hc, hx⟩ := words_cell hw hi
  have D := Lib.hid (fun W => rdec_any ((l.getD i 0 : Nat) : Int) W (by omega) (by omega))
  have HO := Lib.hid hok
  have hcl := hw.2.1
  have hcm := hw.2.2.1
  have u0 := IntWalk.i64_in (4 * ((k : Int) - (i : Int))) (by omega)
  have u1 := IntWalk.i64_in ((k : Int) - (i : Int)) (by omega)
  have u2 := IntWalk.i64_in ((i : Int) + 1) (by omega)
  have u3 := IntWalk.i64_in im (by omega)
  subst eG eA
  have HG := Lib.hid hG
  have HA := Lib.hid hA
  generalize hX : l.getD i 0 = X at *
  have QX : decI (X : Int) = ⟨o, d, u, v, im⟩ := by rw [← hq]; unfold qAt; rw [hX]
  have HX := Lib.hid QX
  clear hw hq hok hX QX hG hA
  have t1 : decide (36 ≤ o) = true := by simp; omega
  have t2 : decide (o ≤ 41) = false := by simp; omega
  have t3 : (o == 44) = false := by simp; omega
  have t4 : (o != 44) = true := by simp; omega
  have t5 : (o != 47) = true := by simp; omega
  have t6 : (o != 48) = true := by simp; omega
  have t5' : (o == 47) = false := by simp; omega
  have t6' : (o == 48) = false := by simp; omega
  clear h h4 h7 h8
  have e2 : ((k : Int) == (i : Int) + 1) = false := by simp; omega
  clear hK
  clear hm
  go_enter Tryd.func19, Tryd.ntmps19
  go_wp2_with fail
  refine (D.out _).mono ?_
  unfold RDecP
  rw [HX.out, HO.out]
  unfold agg5
  rintro e w1 ⟨rfl, hb1⟩
  go_wp2_with fail
  go_ret2
  exact goes_mk HG.out HA.out (below_trans hb1 (by go_grown))

theorem okI_iff {w : Int} {o d u v im : Int} (h : decI w = ⟨o, d, u, v, im⟩) (h0 : 0 ≤ w) (h1 : w < 4294967296) : okI w = decide (o ≠ 0) := by
  unfold decI at h
  unfold okI
  by_cases g : opI w = 0
  · rw [if_pos g] at h
    have : o = 0 := by injection h with a; exact a.symm
    simp [g, this]
  · rw [if_neg g] at h
    have : o = opI w := by
      have := congrArg Q5.o h
      exact this.symm
    simp [g, this]
theorem dec_imm (w : Int) (h0 : 0 ≤ w) (h1 : w < 4294967296) : -2147483648 ≤ (decI w).i ∧ (decI w).i ≤ 2147483647 := by
  unfold decI
  by_cases h : opI w = 0
  · rw [if_pos h]; exact ⟨by decide, by decide⟩
  · rw [if_neg h]
    unfold recI
    have g := get_bd (formI (opI w)) h0 h1
    refine ⟨?_, ?_⟩ <;> simp only <;> (repeat' split) <;> omega
theorem goes_any (a : Option Addr) (c : Nat) (l : List Nat) (i k : Nat) (W : World) (hw : WordsC W a l c) (hi : i < l.length) (hl : l.length ≤ 1000) (hk : k ≤ 1000) :
    Calls Tryd.prog 19 #[.slice a l.length c, .int .i64 (i : Nat), .int .i64 (k : Nat)] W (GoesP (qAt l i) i k W) := by
  obtain ⟨_, _, _, _, _, hx⟩ := words_cell hw hi
  have hm := dec_imm ((l.getD i 0 : Nat) : Int) (by omega) (by omega)
  have hok := fun o d u v im h => okI_iff (o := o) (d := d) (u := u) (v := v) (im := im) (w := ((l.getD i 0 : Nat) : Int)) h (by omega) (by omega)
  generalize hQ : qAt l i = q
  obtain ⟨o, d, u, v, im⟩ := q
  have hQ' : decI ((l.getD i 0 : Nat) : Int) = ⟨o, d, u, v, im⟩ := hQ
  rw [hQ'] at hm
  have hok := hok o d u v im hQ'
  rw [← hQ]
  by_cases ho : o = 0
  · have ha : aimQ (qAt l i) i k = false := by rw [hQ]; unfold aimQ; rw [ho]; rfl
    exact goes_z a c l i k W hw hi hl hk o d u v im hQ (by rw [hok]; simp [ho]) hm ho _ _ (by unfold goesQ comeQ; rw [ha, hQ]; simp [ho]) ha rfl rfl
  · have hok : okI ((l.getD i 0 : Nat) : Int) = true := by rw [hok]; simp [ho]
    have cm : comeQ (qAt l i) i k = (decide (k = i + 1) && onO o) := by rw [hQ]; unfold comeQ; simp [ho]
    have am : aimQ (qAt l i) i k = (aimO o && decide (im = 4 * ((k : Int) - (i : Int)))) := by rw [hQ]; rfl
    by_cases c1 : o < 36
    · have x1 : aimO o = false := by simp [aimO]; omega
      have x2 : onO o = true := by simp [onO]; omega
      by_cases hK : k = i + 1
      · exact goes_l1 a c l i k W hw hi hl hk o d u v im hQ hok hm c1 ho hK _ _ (by unfold goesQ; rw [am, cm]; simp [x1, x2, hK]) (by rw [am]; simp [x1]) rfl rfl
      · exact goes_l0 a c l i k W hw hi hl hk o d u v im hQ hok hm c1 ho hK _ _ (by unfold goesQ; rw [am, cm]; simp [x1, x2, hK]) (by rw [am]; simp [x1]) rfl rfl
    · by_cases c2 : o ≤ 41
      · have x1 : aimO o = true := by simp [aimO]; omega
        have x2 : onO o = true := by simp [onO]; omega
        by_cases hE : im = 4 * ((k : Int) - (i : Int)) <;> by_cases hK : k = i + 1
        · exact goes_b11 a c l i k W hw hi hl hk o d u v im hQ hok hm (by omega) c2 hE hK _ _ (by unfold goesQ; rw [am, cm, x1, x2]; simp only [hE, hK]; simp) (by rw [am, x1]; simp only [hE]; simp) rfl rfl
        · exact goes_b10 a c l i k W hw hi hl hk o d u v im hQ hok hm (by omega) c2 hE hK _ _ (by unfold goesQ; rw [am, cm, x1, x2]; simp only [hE]; simp) (by rw [am, x1]; simp only [hE]; simp) rfl rfl
        · exact goes_b01 a c l i k W hw hi hl hk o d u v im hQ hok hm (by omega) c2 hE hK _ _ (by unfold goesQ; rw [am, cm, x1, x2, decide_eq_false hE, decide_eq_true hK]; rfl) (by rw [am, x1, decide_eq_false hE]; rfl) rfl rfl
        · exact goes_b00 a c l i k W hw hi hl hk o d u v im hQ hok hm (by omega) c2 hE hK _ _ (by unfold goesQ; rw [am, cm, x1, x2, decide_eq_false hE, decide_eq_false hK]; rfl) (by rw [am, x1, decide_eq_false hE]; rfl) rfl rfl
      · by_cases c4 : o = 44
        · have x1 : aimO o = true := by simp [aimO, c4]
          have x2 : onO o = false := by simp [onO, c4]
          by_cases hE : im = 4 * ((k : Int) - (i : Int)) <;> by_cases hK : k = i + 1
          · exact goes_j11 a c l i k W hw hi hl hk o d u v im hQ hok hm c4 hE hK _ _ (by unfold goesQ; rw [am, cm, x1, x2, decide_eq_true hE]; rfl) (by rw [am, x1, decide_eq_true hE]; rfl) rfl rfl
          · exact goes_j10 a c l i k W hw hi hl hk o d u v im hQ hok hm c4 hE hK _ _ (by unfold goesQ; rw [am, cm, x1, x2, decide_eq_true hE]; rfl) (by rw [am, x1, decide_eq_true hE]; rfl) rfl rfl
          · exact goes_j01 a c l i k W hw hi hl hk o d u v im hQ hok hm c4 hE hK _ _ (by unfold goesQ; rw [am, cm, x1, x2, decide_eq_false hE, decide_eq_true hK]; rfl) (by rw [am, x1, decide_eq_false hE]; rfl) rfl rfl
          · exact goes_j00 a c l i k W hw hi hl hk o d u v im hQ hok hm c4 hE hK _ _ (by unfold goesQ; rw [am, cm, x1, x2, decide_eq_false hE, decide_eq_false hK]; rfl) (by rw [am, x1, decide_eq_false hE]; rfl) rfl rfl
        · have x1 : aimO o = false := by simp [aimO]; omega
          by_cases c7 : o = 47
          · have x2 : onO o = false := by simp [onO, c7]
            by_cases hK : k = i + 1
            · exact goes_c1 a c l i k W hw hi hl hk o d u v im hQ hok hm c7 hK _ _ (by unfold goesQ; rw [am, cm, x1, x2]; simp) (by rw [am, x1]; rfl) rfl rfl
            · exact goes_c0 a c l i k W hw hi hl hk o d u v im hQ hok hm c7 hK _ _ (by unfold goesQ; rw [am, cm, x1, x2]; simp) (by rw [am, x1]; rfl) rfl rfl
          · by_cases c8 : o = 48
            · have x2 : onO o = false := by simp [onO, c8]
              by_cases hK : k = i + 1
              · exact goes_e1 a c l i k W hw hi hl hk o d u v im hQ hok hm c8 hK _ _ (by unfold goesQ; rw [am, cm, x1, x2]; simp) (by rw [am, x1]; rfl) rfl rfl
              · exact goes_e0 a c l i k W hw hi hl hk o d u v im hQ hok hm c8 hK _ _ (by unfold goesQ; rw [am, cm, x1, x2]; simp) (by rw [am, x1]; rfl) rfl rfl
            · have x2 : onO o = true := by simp [onO]; omega
              by_cases hK : k = i + 1
              · exact goes_h1 a c l i k W hw hi hl hk o d u v im hQ hok hm (by omega) c4 c7 c8 hK _ _ (by unfold goesQ; rw [am, cm, x1, x2, decide_eq_true hK]; rfl) (by rw [am, x1]; rfl) rfl rfl
              · exact goes_h0 a c l i k W hw hi hl hk o d u v im hQ hok hm (by omega) c4 c7 c8 hK _ _ (by unfold goesQ; rw [am, cm, x1, x2, decide_eq_false hK]; rfl) (by rw [am, x1]; rfl) rfl rfl
end Go.Proofs.YtmlhoagcppofgaaDoor
