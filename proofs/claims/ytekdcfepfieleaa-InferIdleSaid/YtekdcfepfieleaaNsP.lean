/- Plain: the judge's answers in a row are the specification's answer for the node. -/
import Derived.Test.YtekdcfepfieleaaNsM
namespace Go.Proofs.Ytekdcfepfieleaa
open Go Go.RowKit
set_option linter.unusedVariables false

theorem con_eq (C : List CnQ) (i b w : Int) : constE (C.map CnQ.cn) i b w = conQ C i b w := by
  unfold constE conQ
  rw [List.length_map]
  by_cases h : i < 0 ∨ (C.length : Int) ≤ i
  · rw [if_pos h, if_pos h]
  · rw [if_neg h, if_neg h]
    have hk : i.toNat < C.length := by omega
    have : (C.map CnQ.cn).getD i.toNat default = (C.getD i.toNat default).cn := by simp [List.getD_eq_getElem?_getD, List.getElem?_eq_getElem hk]
    rw [this]
    rfl
/-- all answers in a row: what is wrong first, or 0 and the shape -/
def prE (C : List CnQ) (n : Nd) (a b : Sh) : Int × Sh :=
  if hWin n.op = true ∧ winG n a = false then (10, default)
  else if hC n.op = true ∧ ¬ (1 ≤ n.chans ∧ n.chans ≤ 64) then (10, default)
  else if hS n.op = true ∧ n.sh.fit ≠ 0 then (n.sh.fit, default)
  else if n.op = 11 ∧ sizeG n.sh ≠ sizeG a then (10, default)
  else if hB n.op = true ∧ ¬ a = (if n.op = 12 then ⟨b.x, b.y, a.z⟩ else b) then (10, default)
  else if mkE n a b (rowX n a) (rowY n a) ≠ 0 then (mkE n a b (rowX n a) (rowY n a), default)
  else if wtE C n a ≠ 0 then (wtE C n a, default)
  else if bsE C n (mkO n a b (rowX n a) (rowY n a)) ≠ 0 then (bsE C n (mkO n a b (rowX n a) (rowY n a)), default)
  else if nmE C n ≠ 0 then (nmE C n, default)
  else (0, mkO n a b (rowX n a) (rowY n a))
/-- what comes behind the shape -/
def tlE (C : List CnQ) (n : Nd) (a s : Sh) : Int × Sh :=
  if s.fit ≠ 0 then (s.fit, default)
  else if n.op = 4 ∧ 4096 < sizeG a then (12, default)
  else if wtE C n a ≠ 0 then (wtE C n a, default)
  else if bsE C n s ≠ 0 then (bsE C n s, default)
  else if nmE C n ≠ 0 then (nmE C n, default)
  else (0, s)
theorem fit_zero {s : Sh} (h : s.good = true) : s.fit = 0 := by
  unfold Sh.fit
  have x := of_decide_eq_true h
  rw [if_neg (by omega), if_pos h]
theorem weights_eq (C : List CnQ) (n : Nd) (a s : Sh) (h14 : 1 ≤ n.op ∧ n.op ≤ 14) (ha : hA n.op = true → a.good = true) (h1 : n.op = 1 → s = n.sh ∧ n.sh.good = true) :
    weightsE (C.map CnQ.cn) n a s = if wtE C n a ≠ 0 then wtE C n a else bsE C n s := by
  unfold weightsE
  simp only [con_eq]
  rcases ops14 h14 with h | h | h | h | h | h | h | h | h | h | h | h | h | h
  all_goals
    simp only [h, hW, hI, bytesN, wtE, bsE]
    simp
  · rw [(h1 h).1, size_good (h1 h).2]
  · rw [size_good (ha (by rw [h]; rfl))]
theorem tail_eq (C : List CnQ) (n : Nd) (a s : Sh) (h14 : 1 ≤ n.op ∧ n.op ≤ 14) (ha : hA n.op = true → a.good = true) (h1 : n.op = 1 → s = n.sh) :
    (if s.fit ≠ 0 then (s.fit, (default : Sh)) else if n.op = 4 ∧ 4096 < a.size then (12, default) else if weightsE (C.map CnQ.cn) n a s ≠ 0 then (weightsE (C.map CnQ.cn) n a s, default) else if numbersB (C.map CnQ.cn) n = false then (11, default) else (0, s)) = tlE C n a s := by
  unfold tlE
  by_cases hf : s.fit ≠ 0
  · rw [if_pos hf, if_pos hf]
  · rw [if_neg hf, if_neg hf]
    have e4 : (n.op = 4 ∧ 4096 < a.size) ↔ (n.op = 4 ∧ 4096 < sizeG a) := by
      refine and_congr_right fun h => ?_
      rw [size_good (ha (by rw [h]; rfl))]
    by_cases h4 : n.op = 4 ∧ 4096 < a.size
    · rw [if_pos h4, if_pos (e4.1 h4)]
    · rw [if_neg h4, if_neg (fun g => h4 (e4.2 g)), weights_eq C n a s h14 ha (fun h => ⟨h1 h, by have := h1 h; subst this; exact Sh.fit_good (by simpa using hf)⟩)]
      by_cases hw : wtE C n a ≠ 0
      · rw [if_pos hw, if_pos hw, if_pos hw]
      · rw [if_neg hw, if_neg hw]
        by_cases hb : bsE C n s ≠ 0
        · rw [if_pos hb, if_pos hb]
        · rw [if_neg hb, if_neg hb]
          unfold nmE
          cases numbersB (C.map CnQ.cn) n <;> simp
theorem pr_tail {C : List CnQ} {n : Nd} {a b : Sh} (h : ¬ (n.op = 10 ∧ padB7 n = false)) :
    (if mkE n a b (rowX n a) (rowY n a) ≠ 0 then (mkE n a b (rowX n a) (rowY n a), (default : Sh))
  else if wtE C n a ≠ 0 then (wtE C n a, default)
  else if bsE C n (mkO n a b (rowX n a) (rowY n a)) ≠ 0 then (bsE C n (mkO n a b (rowX n a) (rowY n a)), default)
  else if nmE C n ≠ 0 then (nmE C n, default)
  else (0, mkO n a b (rowX n a) (rowY n a))) = tlE C n a (mkO n a b (rowX n a) (rowY n a)) := by
  unfold mkE tlE
  rw [if_neg h]
  generalize mkO n a b (rowX n a) (rowY n a) = s
  by_cases hf : s.fit ≠ 0
  · rw [if_pos hf, if_pos hf, if_pos hf]
  · rw [if_neg hf, if_neg hf]
    by_cases h4 : n.op = 4 ∧ 4096 < sizeG a
    · rw [if_pos h4, if_pos h4, if_pos (by decide)]
    · rw [if_neg h4, if_neg h4, if_neg (by decide)]
theorem pr_ok {C : List CnQ} {n : Nd} {a b : Sh} (h1 : ¬ (hWin n.op = true ∧ winG n a = false)) (h2 : ¬ (hC n.op = true ∧ ¬ (1 ≤ n.chans ∧ n.chans ≤ 64))) (h3 : ¬ (hS n.op = true ∧ n.sh.fit ≠ 0)) (h4 : ¬ (n.op = 11 ∧ sizeG n.sh ≠ sizeG a))
    (h5 : ¬ (hB n.op = true ∧ ¬ a = (if n.op = 12 then ⟨b.x, b.y, a.z⟩ else b))) (h6 : ¬ (n.op = 10 ∧ padB7 n = false)) : prE C n a b = tlE C n a (mkO n a b (rowX n a) (rowY n a)) := by
  unfold prE
  rw [if_neg h1, if_neg h2, if_neg h3, if_neg h4, if_neg h5, pr_tail h6]
def ndT (C : List CnQ) (n : Nd) (a : Sh) (o : Int × Sh) : Int × Sh :=
  if o.1 ≠ 0 then (o.1, default) else if o.2.fit ≠ 0 then (o.2.fit, default) else if n.op = 4 ∧ 4096 < a.size then (12, default) else if weightsE (C.map CnQ.cn) n a o.2 ≠ 0 then (weightsE (C.map CnQ.cn) n a o.2, default) else if numbersB (C.map CnQ.cn) n = false then (11, default) else (0, o.2)
/-- the specification's answer, if the node's inputs are there and nothing idle is set -/
theorem node_pr (C : List CnQ) (n : Nd) (l : List Sh) (a b : Sh) (h14 : 1 ≤ n.op ∧ n.op ≤ 14) (hins : insOk n l.length = true) (hid : idleN n = true)
    (hA1 : hA n.op = true → a = l.getD n.a.toNat default ∧ a.good = true) (hB1 : hB n.op = true → b = l.getD n.b.toNat default ∧ b.good = true) : nodeE (C.map CnQ.cn) n l = prE C n a b := by
  have T : ∀ (A : Sh) (s : Sh), (hA n.op = true → A = a) → (n.op = 1 → s = n.sh) → ndT C n A (0, s) = tlE C n a s := by
    intro A s hAa h1
    by_cases h : hA n.op = true
    · rw [hAa h]
      rw [← tail_eq C n a s h14 (fun h => (hA1 h).2) h1]
      unfold ndT
      rw [if_neg (by simp)]
    · have e1 : n.op = 1 := by
        unfold hA at h
        simpa using h
      have w1 : ∀ X Y : Sh, weightsE (C.map CnQ.cn) n X s = weightsE (C.map CnQ.cn) n Y s := by
        intro X Y; unfold weightsE bytesN; simp [e1]
      rw [← tail_eq C n a s h14 (fun h => (hA1 h).2) h1]
      unfold ndT
      rw [if_neg (by simp), w1 A a]
      simp [e1]
  have TB : ∀ (A : Sh) (c : Int) (s : Sh), c ≠ 0 → ndT C n A (c, s) = (c, default) := by
    intro A c s h
    unfold ndT
    rw [if_pos h]
  have L : nodeE (C.map CnQ.cn) n l = ndT C n (l.getD n.a.toNat default) (outN n (l.getD n.a.toNat default) (l.getD n.b.toNat default)) := by
    unfold nodeE ndT
    rw [if_neg (by omega), if_neg (by rw [hins]; simp), if_neg (by rw [hid]; simp)]
  rw [L]
  clear L
  generalize hAA : l.getD n.a.toNat default = A at *
  generalize hBB : l.getD n.b.toNat default = B at *
  have dflt : ∀ (s : Sh), (∀ X Y, outN n X Y = (0, s) ∨ True) → True := fun _ _ => trivial
  clear dflt
  rcases ops14 h14 with h | h | h | h | h | h | h | h | h | h | h | h | h | h
  · by_cases hf : n.sh.fit ≠ 0
    · rw [show outN n A B = (n.sh.fit, n.sh) by unfold outN; simp [h, hWin, hC], TB _ _ _ hf]
      unfold prE
      rw [if_neg (by rw [h]; simp [hWin]), if_neg (by rw [h]; simp [hC]), if_pos ⟨by rw [h]; rfl, hf⟩]
    · rw [show outN n A B = (0, n.sh) by unfold outN; simp [h, hWin, hC]; simpa using hf, T A _ (fun g => by rw [h] at g; cases g) (fun _ => rfl), pr_ok (by rw [h]; simp [hWin]) (by rw [h]; simp [hC]) (fun g => hf g.2) (by rw [h]; simp) (by rw [h]; simp [hB]) (by rw [h]; simp)]
      rw [show mkO n a b (rowX n a) (rowY n a) = n.sh by unfold mkO; simp [h]; rfl]
  · obtain rfl : a = A := (hA1 (by rw [h]; rfl)).1
    cases hw : winG n a
    · rw [show outN n a B = (10, a) by unfold outN; simp [h, hWin, hw], TB _ _ _ (by decide)]
      unfold prE
      rw [if_pos ⟨by rw [h]; rfl, hw⟩]
    · by_cases hc : 1 ≤ n.chans ∧ n.chans ≤ 64
      · rw [show outN n a B = (0, ⟨rowX n a, rowY n a, n.chans⟩) by unfold outN; simp [h, hWin, hC, hw, hc], T a _ (fun _ => rfl) (fun g => by rw [h] at g; cases g), pr_ok (by rw [hw]; simp) (fun g => g.2 hc) (by rw [h]; simp [hS]) (by rw [h]; simp) (by rw [h]; simp [hB]) (by rw [h]; simp)]
        rw [show mkO n a b (rowX n a) (rowY n a) = ⟨rowX n a, rowY n a, n.chans⟩ by unfold mkO; simp [h]]
      · rw [show outN n a B = (10, a) by unfold outN; simp only [h, hWin, hC, hw]; simp [hc], TB _ _ _ (by decide)]
        unfold prE
        rw [if_neg (by rw [hw]; simp), if_pos ⟨by rw [h]; rfl, hc⟩]
  · obtain rfl : a = A := (hA1 (by rw [h]; rfl)).1
    cases hw : winG n a
    · rw [show outN n a B = (10, a) by unfold outN; simp [h, hWin, hw], TB _ _ _ (by decide)]
      unfold prE
      rw [if_pos ⟨by rw [h]; rfl, hw⟩]
    · rw [show outN n a B = (0, ⟨rowX n a, rowY n a, a.z⟩) by unfold outN; simp [h, hWin, hC, hw], T a _ (fun _ => rfl) (fun g => by rw [h] at g; cases g), pr_ok (by rw [hw]; simp) (by rw [h]; simp [hC]) (by rw [h]; simp [hS]) (by rw [h]; simp) (by rw [h]; simp [hB]) (by rw [h]; simp)]
      rw [show mkO n a b (rowX n a) (rowY n a) = ⟨rowX n a, rowY n a, a.z⟩ by unfold mkO; simp [h]]
  · obtain rfl : a = A := (hA1 (by rw [h]; rfl)).1
    by_cases hc : 1 ≤ n.chans ∧ n.chans ≤ 64
    · rw [show outN n a B = (0, ⟨1, 1, n.chans⟩) by unfold outN; simp [h, hWin, hC, hc], T a _ (fun _ => rfl) (fun g => by rw [h] at g; cases g), pr_ok (by rw [h]; simp [hWin]) (fun g => g.2 hc) (by rw [h]; simp [hS]) (by rw [h]; simp) (by rw [h]; simp [hB]) (by rw [h]; simp)]
      rw [show mkO n a b (rowX n a) (rowY n a) = ⟨1, 1, n.chans⟩ by unfold mkO; simp [h]]
    · rw [show outN n a B = (10, a) by unfold outN; simp only [h, hWin, hC]; simp [hc], TB _ _ _ (by decide)]
      unfold prE
      rw [if_neg (by rw [h]; simp [hWin]), if_pos ⟨by rw [h]; rfl, hc⟩]
  · obtain rfl : a = A := (hA1 (by rw [h]; rfl)).1
    cases hw : winG n a
    · rw [show outN n a B = (10, a) by unfold outN; simp [h, hWin, hw], TB _ _ _ (by decide)]
      unfold prE
      rw [if_pos ⟨by rw [h]; rfl, hw⟩]
    · rw [show outN n a B = (0, ⟨rowX n a, rowY n a, a.z⟩) by unfold outN; simp [h, hWin, hC, hw], T a _ (fun _ => rfl) (fun g => by rw [h] at g; cases g), pr_ok (by rw [hw]; simp) (by rw [h]; simp [hC]) (by rw [h]; simp [hS]) (by rw [h]; simp) (by rw [h]; simp [hB]) (by rw [h]; simp)]
      rw [show mkO n a b (rowX n a) (rowY n a) = ⟨rowX n a, rowY n a, a.z⟩ by unfold mkO; simp [h]]
  · obtain rfl : a = A := (hA1 (by rw [h]; rfl)).1
    cases hw : winG n a
    · rw [show outN n a B = (10, a) by unfold outN; simp [h, hWin, hw], TB _ _ _ (by decide)]
      unfold prE
      rw [if_pos ⟨by rw [h]; rfl, hw⟩]
    · rw [show outN n a B = (0, ⟨rowX n a, rowY n a, a.z⟩) by unfold outN; simp [h, hWin, hC, hw], T a _ (fun _ => rfl) (fun g => by rw [h] at g; cases g), pr_ok (by rw [hw]; simp) (by rw [h]; simp [hC]) (by rw [h]; simp [hS]) (by rw [h]; simp) (by rw [h]; simp [hB]) (by rw [h]; simp)]
      rw [show mkO n a b (rowX n a) (rowY n a) = ⟨rowX n a, rowY n a, a.z⟩ by unfold mkO; simp [h]]
  · obtain rfl : a = A := (hA1 (by rw [h]; rfl)).1
    obtain rfl : b = B := (hB1 (by rw [h]; rfl)).1
    by_cases hc : a = b
    · rw [show outN n a b = (0, a) by unfold outN; simp [h, hWin, hC, hc], T a _ (fun _ => rfl) (fun g => by rw [h] at g; cases g), pr_ok (by rw [h]; simp [hWin]) (by rw [h]; simp [hC]) (by rw [h]; simp [hS]) (by rw [h]; simp) (fun g => g.2 (by rw [if_neg (by rw [h]; decide)]; exact hc)) (by rw [h]; simp)]
      rw [show mkO n a b (rowX n a) (rowY n a) = a by unfold mkO; simp [h]]
    · rw [show outN n a b = (10, a) by unfold outN; simp [h, hWin, hC, hc], TB _ _ _ (by decide)]
      unfold prE
      rw [if_neg (by rw [h]; simp [hWin]), if_neg (by rw [h]; simp [hC]), if_neg (by rw [h]; simp [hS]), if_neg (by rw [h]; simp), if_pos ⟨by rw [h]; rfl, by rw [if_neg (by rw [h]; decide)]; exact hc⟩]
  · obtain rfl : a = A := (hA1 (by rw [h]; rfl)).1
    obtain rfl : b = B := (hB1 (by rw [h]; rfl)).1
    by_cases hc : a = b
    · rw [show outN n a b = (0, a) by unfold outN; simp [h, hWin, hC, hc], T a _ (fun _ => rfl) (fun g => by rw [h] at g; cases g), pr_ok (by rw [h]; simp [hWin]) (by rw [h]; simp [hC]) (by rw [h]; simp [hS]) (by rw [h]; simp) (fun g => g.2 (by rw [if_neg (by rw [h]; decide)]; exact hc)) (by rw [h]; simp)]
      rw [show mkO n a b (rowX n a) (rowY n a) = a by unfold mkO; simp [h]]
    · rw [show outN n a b = (10, a) by unfold outN; simp [h, hWin, hC, hc], TB _ _ _ (by decide)]
      unfold prE
      rw [if_neg (by rw [h]; simp [hWin]), if_neg (by rw [h]; simp [hC]), if_neg (by rw [h]; simp [hS]), if_neg (by rw [h]; simp), if_pos ⟨by rw [h]; rfl, by rw [if_neg (by rw [h]; decide)]; exact hc⟩]
  · obtain rfl : a = A := (hA1 (by rw [h]; rfl)).1
    rw [show outN n a B = (0, a) by unfold outN; simp [h, hWin, hC], T a _ (fun _ => rfl) (fun g => by rw [h] at g; cases g), pr_ok (by rw [h]; simp [hWin]) (by rw [h]; simp [hC]) (by rw [h]; simp [hS]) (by rw [h]; simp) (by rw [h]; simp [hB]) (by rw [h]; simp)]
    rw [show mkO n a b (rowX n a) (rowY n a) = a by unfold mkO; simp [h]]
  · obtain rfl : a = A := (hA1 (by rw [h]; rfl)).1
    cases hp : padB7 n
    · rw [show outN n a B = (10, ⟨a.x + n.p0 + n.p2, a.y + n.p1 + n.p3, a.z⟩) by unfold outN; simp [h, hWin, hC, hp], TB _ _ _ (by decide)]
      unfold prE
      rw [if_neg (by rw [h]; simp [hWin]), if_neg (by rw [h]; simp [hC]), if_neg (by rw [h]; simp [hS]), if_neg (by rw [h]; simp), if_neg (by rw [h]; simp [hB]), show mkE n a b (rowX n a) (rowY n a) = 10 by unfold mkE; rw [if_pos ⟨h, hp⟩], if_pos (by decide)]
    · rw [show outN n a B = (0, ⟨a.x + n.p0 + n.p2, a.y + n.p1 + n.p3, a.z⟩) by unfold outN; simp [h, hWin, hC, hp], T a _ (fun _ => rfl) (fun g => by rw [h] at g; cases g), pr_ok (by rw [h]; simp [hWin]) (by rw [h]; simp [hC]) (by rw [h]; simp [hS]) (by rw [h]; simp) (by rw [h]; simp [hB]) (by rw [hp]; simp)]
      rw [show mkO n a b (rowX n a) (rowY n a) = ⟨a.x + n.p0 + n.p2, a.y + n.p1 + n.p3, a.z⟩ by unfold mkO; simp [h]]
  · obtain ⟨ha0, ga⟩ := hA1 (by rw [h]; rfl)
    obtain rfl : a = A := ha0
    by_cases hf : n.sh.fit ≠ 0
    · rw [show outN n a B = (n.sh.fit, n.sh) by unfold outN; simp only [h, hWin, hC]; simp [hf], TB _ _ _ hf]
      unfold prE
      rw [if_neg (by rw [h]; simp [hWin]), if_neg (by rw [h]; simp [hC]), if_pos ⟨by rw [h]; rfl, hf⟩]
    · have hf0 : n.sh.fit = 0 := by simpa using hf
      have e1 := size_good (Sh.fit_good hf0)
      have e2 := size_good ga
      by_cases hs : n.sh.size ≠ a.size
      · rw [show outN n a B = (10, n.sh) by unfold outN; simp only [h, hWin, hC]; simp [hf0, hs], TB _ _ _ (by decide)]
        unfold prE
        rw [if_neg (by rw [h]; simp [hWin]), if_neg (by rw [h]; simp [hC]), if_neg (fun g => hf g.2), if_pos ⟨h, by rw [e1, e2]; exact hs⟩]
      · rw [show outN n a B = (0, n.sh) by unfold outN; simp only [h, hWin, hC]; simp [hf0, show n.sh.size = a.size by simpa using hs], T a _ (fun _ => rfl) (fun _ => rfl), pr_ok (by rw [h]; simp [hWin]) (by rw [h]; simp [hC]) (fun g => hf g.2) (fun g => hs (by rw [← e1, ← e2]; exact g.2)) (by rw [h]; simp [hB]) (by rw [h]; simp)]
        rw [show mkO n a b (rowX n a) (rowY n a) = n.sh by unfold mkO; simp [h]; rfl]
  · obtain rfl : a = A := (hA1 (by rw [h]; rfl)).1
    obtain rfl : b = B := (hB1 (by rw [h]; rfl)).1
    by_cases hc : a.x = b.x ∧ a.y = b.y
    · rw [show outN n a b = (0, ⟨a.x, a.y, a.z + b.z⟩) by unfold outN; simp [h, hWin, hC, hc], T a _ (fun _ => rfl) (fun g => by rw [h] at g; cases g), pr_ok (by rw [h]; simp [hWin]) (by rw [h]; simp [hC]) (by rw [h]; simp [hS]) (by rw [h]; simp) (fun g => g.2 (by rw [if_pos h, ← hc.1, ← hc.2])) (by rw [h]; simp)]
      rw [show mkO n a b (rowX n a) (rowY n a) = ⟨a.x, a.y, a.z + b.z⟩ by unfold mkO; simp [h]]
    · rw [show outN n a b = (10, ⟨a.x, a.y, a.z + b.z⟩) by unfold outN; simp only [h, hWin, hC]; simp [hc], TB _ _ _ (by decide)]
      unfold prE
      rw [if_neg (by rw [h]; simp [hWin]), if_neg (by rw [h]; simp [hC]), if_neg (by rw [h]; simp [hS]), if_neg (by rw [h]; simp), if_pos ⟨by rw [h]; rfl, by rw [if_pos h]; intro g; exact hc ⟨by have := congrArg Sh.x g; exact this, by have := congrArg Sh.y g; exact this⟩⟩]
  · obtain rfl : a = A := (hA1 (by rw [h]; rfl)).1
    rw [show outN n a B = (0, ⟨a.x, a.y, 1⟩) by unfold outN; simp [h, hWin, hC], T a _ (fun _ => rfl) (fun g => by rw [h] at g; cases g), pr_ok (by rw [h]; simp [hWin]) (by rw [h]; simp [hC]) (by rw [h]; simp [hS]) (by rw [h]; simp) (by rw [h]; simp [hB]) (by rw [h]; simp)]
    rw [show mkO n a b (rowX n a) (rowY n a) = ⟨a.x, a.y, 1⟩ by unfold mkO; simp [h]]
  · obtain rfl : a = A := (hA1 (by rw [h]; rfl)).1
    rw [show outN n a B = (0, a) by unfold outN; simp [h, hWin, hC], T a _ (fun _ => rfl) (fun g => by rw [h] at g; cases g), pr_ok (by rw [h]; simp [hWin]) (by rw [h]; simp [hC]) (by rw [h]; simp [hS]) (by rw [h]; simp) (by rw [h]; simp [hB]) (by rw [h]; simp)]
    rw [show mkO n a b (rowX n a) (rowY n a) = a by unfold mkO; simp [h]]
end Go.Proofs.Ytekdcfepfieleaa
