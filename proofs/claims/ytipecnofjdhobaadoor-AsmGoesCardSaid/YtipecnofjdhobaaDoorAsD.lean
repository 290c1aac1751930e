/- Words that stand for instructions come back; where an item's words lie. -/
import Derived.Test.YtipecnofjdhobaaDoorInstT
import Derived.Test.YtipecnofjdhobaaDoorGA
namespace Go.Proofs.YtipecnofjdhobaaDoor
open Go Go.RowKit Go.Maps Pl
set_option linter.unusedVariables false
set_option linter.unusedSimpArgs false

theorem dec_word {x : Q5} (h : canI x = true) : (0 ≤ wordI x ∧ wordI x < 4294967296) ∧ decI (wordI x) = x ∧ okI (wordI x) = true := by
  have C := canI_out h
  have h := word_op C
  have ho := C.ho
  refine ⟨(rec_word C).1, ?_⟩
  unfold decI okI
  rw [h, if_neg (by omega)]
  exact ⟨(rec_word C).2, by simp; omega⟩
theorem rdec_yes (q : Q5) (h : canI q = true) (W : World) : Calls Tryd.prog 9 #[.int .u32 (wordI q)] W fun e W' => e = .returned (.tuple #[.agg #[.int .i64 q.o, .int .i64 q.d, .int .i64 q.a, .int .i64 q.b, .int .i32 q.i], .bool true]) ∧ Below W.heap.size W W' := by
  obtain ⟨⟨h0, h1⟩, h2, h3⟩ := dec_word h
  have := rdec_any (wordI q) W h0 h1
  unfold RDecP at this
  rw [h2, h3] at this
  exact this
theorem enc_can {q : Q5} (h : canI q = true) : encI q = wordI q := by unfold encI; rw [h]; rfl
/-- where an item's words lie -/
theorem wordsK_at {l : List It} {F : Nat → Bool} {off : Nat → Int} {i : Nat} {x : It} (hx : l[i]? = some x) {j : Nat} {q : Q5} (hq : (expI x (F i) (off i))[j]? = some q) : ∀ k, i < k → (wordsK l F off k)[(wordsK l F off i).length + j]? = some (encI q)
  | 0, h => by omega
  | k + 1, h => by
    by_cases e : k = i
    · subst e
      rw [wordsK_succ hx, List.getElem?_append_right (by omega)]
      simp [hq]
    · have ih := wordsK_at hx hq k (by omega)
      show (wordsK l F off k ++ _)[_]? = _
      rw [List.getElem?_append_left (List.getElem?_eq_some_iff.1 ih).1, ih]
theorem exp_all {l : List It} (hok : ∀ x ∈ l, x.okay) (hc : CanAll l) (hl : l.length ≤ 4000) {tg : Nat → Int} (ht : TgOk l tg) {F : Nat → Bool} (hcl : (rxM l tg).closed F) {off : Nat → Int}
    (ho : ∀ (i : Nat) (x : It), l[i]? = some x → x.kd = 3 ∨ x.kd = 4 → off i = (rxM l tg).pl F ((rxM l tg).to i) - (rxM l tg).pl F i) {k : Nat} {x : It} (hx : l[k]? = some x) : ∀ q ∈ expI x (F k) (off k), canI q = true := by
  have hxm := List.mem_of_getElem? hx
  have hkl := (List.getElem?_eq_some_iff.1 hx).1
  refine exp_can (hok x hxm) (hc x hxm) (fun h3 hf => ?_) (fun h34 => ?_)
  · have h := hcl k hkl (by show brL l k = true; rw [brL_at hx]; simp [h3]) hf
    rw [← ho k x hx (.inl h3)] at h
    unfold nearR at h
    simpa using h
  · have e := ho k x hx h34
    obtain ⟨t, y, h1, h2, _⟩ := ht.t k x hx h34
    have ht0 : (rxM l tg).to k = t := by show (tg k).toNat = t; rw [h1]; rfl
    rw [ht0] at e
    have b1 := pl_bd (rxM_ok ht) F t
    have b2 := pl_bd (rxM_ok ht) F k
    have m1 : (rxM l tg).pl F t % 4 = 0 := pl_4 l F t
    have m2 : (rxM l tg).pl F k % 4 = 0 := pl_4 l F k
    omega
/-- what the law reads of a branch or a jump -/
structure GoN (ws : List Int) (p d : Int) (m : Nat) (q : Q5) : Prop where
  pm : p = 4 * (m : Int)
  at_ : ws[m]? = some (wordI q)
  can : canI q = true
  im : q.i = d
structure GoF (x : It) (ws : List Int) (p d : Int) (m : Nat) (q r : Q5) : Prop where
  pm : p = 4 * (m : Int)
  at_ : ws[m]? = some (wordI q)
  can : canI q = true
  at2 : ws[m + 1]? = some (wordI r)
  can2 : canI r = true
  im : q.i = 8
  op : q.o ≠ x.op
  ra : q.a = x.ra
  jl : r.o = 44
  rd : r.d = 0
  im2 : r.i = d - 4
theorem goes_n {l : List It} (hok : ∀ x ∈ l, x.okay) (hc : CanAll l) (hl : l.length ≤ 4000) {tg : Nat → Int} (ht : TgOk l tg) {F : Nat → Bool} (hcl : (rxM l tg).closed F) {off : Nat → Int} (hF : ∀ i, F i = true → i < l.length ∧ brL l i = true)
    (ho : ∀ (i : Nat) (x : It), l[i]? = some x → x.kd = 3 ∨ x.kd = 4 → off i = (rxM l tg).pl F ((rxM l tg).to i) - (rxM l tg).pl F i) {k : Nat} {x : It} (hx : l[k]? = some x) (hk : x.kd = 3 ∨ x.kd = 4) (hf : F k = false) :
    ∃ m q, GoN (wordsK l F off l.length) ((rxM l tg).pl F k) (off k) m q := by
  have hkl := (List.getElem?_eq_some_iff.1 hx).1
  have e : expI x (F k) (off k) = [⟨x.op, x.rd, x.ra, x.rb, off k⟩] := by
    unfold expI
    rw [if_neg (by omega), if_neg (by omega), hf, if_neg (fun h => by cases h.2), if_neg (by omega)]
  have hca := exp_all hok hc hl ht hcl ho hx ⟨x.op, x.rd, x.ra, x.rb, off k⟩ (by rw [e]; exact List.mem_cons_self ..)
  have hat := wordsK_at (l := l) (F := F) (off := off) hx (j := 0) (by rw [e]; rfl) l.length hkl
  rw [enc_can hca] at hat
  exact ⟨_, _, (wordsK_len hc hF off k (by omega)).symm, hat, hca, rfl⟩
theorem goes_f {l : List It} (hok : ∀ x ∈ l, x.okay) (hc : CanAll l) (hl : l.length ≤ 4000) {tg : Nat → Int} (ht : TgOk l tg) {F : Nat → Bool} (hcl : (rxM l tg).closed F) {off : Nat → Int} (hF : ∀ i, F i = true → i < l.length ∧ brL l i = true)
    (ho : ∀ (i : Nat) (x : It), l[i]? = some x → x.kd = 3 ∨ x.kd = 4 → off i = (rxM l tg).pl F ((rxM l tg).to i) - (rxM l tg).pl F i) {k : Nat} {x : It} (hx : l[k]? = some x) (hf : F k = true) :
    ∃ m q r, GoF x (wordsK l F off l.length) ((rxM l tg).pl F k) (off k) m q r := by
  have hkl := (List.getElem?_eq_some_iff.1 hx).1
  have h3 : x.kd = 3 := by have := (hF k hf).2; rw [brL_at hx] at this; simpa using this
  have e : expI x (F k) (off k) = [⟨turnS x.op, x.rd, x.ra, x.rb, 8⟩, ⟨44, 0, 0, 0, off k - 4⟩] := by
    unfold expI
    rw [if_neg (by omega), if_neg (by omega), if_pos ⟨h3, hf⟩]
  have hop : 36 ≤ x.op ∧ x.op ≤ 41 := by
    have h := hc x (List.mem_of_getElem? hx)
    unfold canIt at h
    rw [if_neg (by omega), if_neg (by omega), if_pos h3] at h
    simp only [Bool.and_eq_true, decide_eq_true_eq] at h
    exact h.1.1
  have hca := exp_all hok hc hl ht hcl ho hx ⟨turnS x.op, x.rd, x.ra, x.rb, 8⟩ (by rw [e]; simp)
  have hcb := exp_all hok hc hl ht hcl ho hx ⟨44, 0, 0, 0, off k - 4⟩ (by rw [e]; simp)
  have hat := wordsK_at (l := l) (F := F) (off := off) hx (j := 0) (by rw [e]; rfl) l.length hkl
  have hbt := wordsK_at (l := l) (F := F) (off := off) hx (j := 1) (by rw [e]; rfl) l.length hkl
  rw [enc_can hca] at hat
  rw [enc_can hcb] at hbt
  exact ⟨_, _, _, (wordsK_len hc hF off k (by omega)).symm, hat, hca, hbt, hcb, rfl, (turn_bd hop).2, rfl, rfl, rfl, rfl⟩
end Go.Proofs.YtipecnofjdhobaaDoor
