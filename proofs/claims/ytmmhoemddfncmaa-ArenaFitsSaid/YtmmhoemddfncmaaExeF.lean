/- A runner, part F: regions, code, functions. -/
import Derived.Test.YtmmhoemddfncmaaExeE
namespace Go.Proofs.Ytmmhoemddfncmaa
open Go Go.RowKit
set_option linter.unusedVariables false
set_option linter.unusedSimpArgs false

/-! equality that the kernel can ask for -/
def beqF : Value → Value → Bool
  | .bool a, .bool b => a == b
  | .int k a, .int l b => decide (k = l) && decide (a = b)
  | .string a, .string b => decide (a.data.toList = b.data.toList)
  | .pointer a, .pointer b => decide (a = b)
  | .slice a n c, .slice b m d => decide (a = b) && (Nat.beq n m && Nat.beq c d)
  | .float k a, .float l b => decide (k = l) && Nat.beq a b
  | .complex k a b, .complex l c d => decide (k = l) && (Nat.beq a c && Nat.beq b d)
  | .nilFunc, .nilFunc => true
  | .nilIface, .nilIface => true
  | _, _ => false
theorem beqF_ok {a b : Value} (h : beqF a b = true) : a = b := by
  cases a <;> cases b <;> simp_all [beqF]
  · rename_i a b
    obtain ⟨⟨a⟩⟩ := a; obtain ⟨⟨b⟩⟩ := b
    simpa using h
def beqFs : List Value → List Value → Bool
  | [], [] => true
  | a :: l, b :: m => beqF a b && beqFs l m
  | _, _ => false
theorem beqFs_ok : ∀ {a b : List Value}, beqFs a b = true → a = b
  | [], [], _ => rfl
  | a :: l, b :: m, h => by
    simp only [beqFs, Bool.and_eq_true] at h
    rw [beqF_ok h.1, beqFs_ok h.2]
  | [], _ :: _, h => by simp [beqFs] at h
  | _ :: _, [], h => by simp [beqFs] at h
def beqG : Value → Value → Bool
  | .agg a, .agg b => beqFs a.toList b.toList
  | a, b => beqF a b
theorem beqG_ok {a b : Value} (h : beqG a b = true) : a = b := by
  unfold beqG at h
  split at h
  · rw [Array.ext' (beqFs_ok h)]
  · exact beqF_ok h
def beqGs : List Value → List Value → Bool
  | [], [] => true
  | a :: l, b :: m => beqG a b && beqGs l m
  | _, _ => false
theorem beqGs_ok : ∀ {a b : List Value}, beqGs a b = true → a = b
  | [], [], _ => rfl
  | a :: l, b :: m, h => by
    simp only [beqGs, Bool.and_eq_true] at h
    rw [beqG_ok h.1, beqGs_ok h.2]
  | [], _ :: _, h => by simp [beqGs] at h
  | _ :: _, [], h => by simp [beqGs] at h
def beqC : Value → Value → Bool
  | .func (.func f) a b, .func (.func g) c d => Nat.beq f g && (beqGs a.toList c.toList && beqGs b.toList d.toList)
  | a, b => beqF a b
theorem beqC_ok {a b : Value} (h : beqC a b = true) : a = b := by
  unfold beqC at h
  split at h
  · simp only [Bool.and_eq_true] at h
    rw [Nat.eq_of_beq_eq_true h.1, Array.ext' (beqGs_ok h.2.1), Array.ext' (beqGs_ok h.2.2)]
  · exact beqF_ok h
def beqCs : List Value → List Value → Bool
  | [], [] => true
  | a :: l, b :: m => beqC a b && beqCs l m
  | _, _ => false
theorem beqCs_ok : ∀ {a b : List Value}, beqCs a b = true → a = b
  | [], [], _ => rfl
  | a :: l, b :: m, h => by
    simp only [beqCs, Bool.and_eq_true] at h
    rw [beqC_ok h.1, beqCs_ok h.2]
  | [], _ :: _, h => by simp [beqCs] at h
  | _ :: _, [], h => by simp [beqCs] at h
def beqA : Value → Value → Bool
  | .agg a, .agg b => beqCs a.toList b.toList
  | a, b => beqC a b
theorem beqA_ok {a b : Value} (h : beqA a b = true) : a = b := by
  unfold beqA at h
  split at h
  · rw [Array.ext' (beqCs_ok h)]
  · exact beqC_ok h
def beqAs : List Value → List Value → Bool
  | [], [] => true
  | a :: l, b :: m => beqA a b && beqAs l m
  | _, _ => false
theorem beqAs_ok : ∀ {a b : List Value}, beqAs a b = true → a = b
  | [], [], _ => rfl
  | a :: l, b :: m, h => by
    simp only [beqAs, Bool.and_eq_true] at h
    rw [beqA_ok h.1, beqAs_ok h.2]
  | [], _ :: _, h => by simp [beqAs] at h
  | _ :: _, [], h => by simp [beqAs] at h
def beq1 : Value → Value → Bool
  | .tuple a, .tuple b => beqAs a.toList b.toList
  | a, b => beqA a b
theorem beq1_ok {a b : Value} (h : beq1 a b = true) : a = b := by
  unfold beq1 at h
  split at h
  · rw [Array.ext' (beqAs_ok h)]
  · exact beqA_ok h
def beq1s : List Value → List Value → Bool
  | [], [] => true
  | a :: l, b :: m => beq1 a b && beq1s l m
  | _, _ => false
theorem beq1s_ok : ∀ {a b : List Value}, beq1s a b = true → a = b
  | [], [], _ => rfl
  | a :: l, b :: m, h => by
    simp only [beq1s, Bool.and_eq_true] at h
    rw [beq1_ok h.1, beq1s_ok h.2]
  | [], _ :: _, h => by simp [beq1s] at h
  | _ :: _, [], h => by simp [beq1s] at h
def beqEnt : Ent → Ent → Bool
  | .dead, .dead => true
  | .resv, .resv => true
  | .live a, .live b => beqCs a.cells b.cells && (Nat.beq a.elem b.elem && (Nat.beq a.unit b.unit && (Nat.beq a.capN b.capN && (a.opn == b.opn))))
  | _, _ => false
theorem beqEnt_ok {a b : Ent} (h : beqEnt a b = true) : a = b := by
  cases a <;> cases b <;> simp [beqEnt] at h
  · rfl
  · rfl
  · rename_i a b
    obtain ⟨a1, a2, a3, a4, a5⟩ := a; obtain ⟨b1, b2, b3, b4, b5⟩ := b
    simp only at h
    rw [beqCs_ok h.1, h.2.1, h.2.2.1, h.2.2.2.1, h.2.2.2.2]
def beqEnts : List Ent → List Ent → Bool
  | [], [] => true
  | a :: l, b :: m => beqEnt a b && beqEnts l m
  | _, _ => false
theorem beqEnts_ok : ∀ {a b : List Ent}, beqEnts a b = true → a = b
  | [], [], _ => rfl
  | a :: l, b :: m, h => by
    simp only [beqEnts, Bool.and_eq_true] at h
    rw [beqEnt_ok h.1, beqEnts_ok h.2]
  | [], _ :: _, h => by simp [beqEnts] at h
  | _ :: _, [], h => by simp [beqEnts] at h
def beqHp (a b : Hp) : Bool := Nat.beq a.n b.n && beqEnts a.rev b.rev
theorem beqHp_ok {a b : Hp} (h : beqHp a b = true) : a = b := by
  obtain ⟨n, l⟩ := a; obtain ⟨m, k⟩ := b
  simp only [beqHp, Bool.and_eq_true] at h
  rw [Nat.eq_of_beq_eq_true h.1, beqEnts_ok h.2]
/-- what was known still stands -/
def keepsL : List Ent → List Ent → Bool
  | [], _ => true
  | .live a :: l, b :: m => beqEnt (.live a) b && keepsL l m
  | _ :: l, _ :: m => keepsL l m
  | .live _ :: _, [] => false
  | _ :: l, [] => keepsL l []
theorem keepsL_ok : ∀ {l m : List Ent}, keepsL l m = true → ∀ (i : Nat) (k : Blk), l[i]? = some (.live k) → m[i]? = some (.live k)
  | [], _, _, i, k, h => by simp at h
  | e :: l, b :: m, hk, i, k, h => by
    cases i with
    | zero =>
      simp at h; subst h
      simp only [keepsL, Bool.and_eq_true] at hk
      simp [← beqEnt_ok hk.1]
    | succ i =>
      simp at h ⊢
      refine keepsL_ok ?_ i k h
      cases e <;> simp_all [keepsL]
  | e :: l, [], hk, i, k, h => by
    cases i with
    | zero => simp at h; subst h; simp [keepsL] at hk
    | succ i =>
      simp at h
      have := keepsL_ok (l := l) (m := []) (by cases e <;> simp_all [keepsL]) i k h
      simp at this
def keepsB (Hs H : Hp) : Bool := match Nat.ble Hs.n H.n with
  | true => keepsL Hs.rev (H.rev.drop (H.n - Hs.n))
  | false => false
def Keeps (Hs H : Hp) : Prop := ∀ (i : Nat) (k : Blk), Hs.get i = .live k → H.get i = .live k
theorem keepsB_ok {Hs H : Hp} (h : keepsB Hs H = true) : Keeps Hs H := by
  intro i k hi
  unfold keepsB at h
  split at h
  · rename_i hle
    have hle := Nat.le_of_ble_eq_true hle
    unfold Hp.get at hi
    split at hi
    · rename_i hlt
      have hlt' := blt_true.1 hlt
      have hlt2 : Nat.blt i H.n = true := blt_true.2 (by omega)
      rw [List.getD_eq_getElem?_getD] at hi
      cases hg : Hs.rev[Hs.n - 1 - i]? with
      | none => rw [hg] at hi; cases hi
      | some e =>
        rw [hg] at hi
        simp at hi; subst hi
        have := keepsL_ok h _ k hg
        rw [List.getElem?_drop] at this
        simp only [Hp.get, hlt2]
        rw [List.getD_eq_getElem?_getD, show H.n - 1 - i = H.n - Hs.n + (Hs.n - 1 - i) by omega, this]
        rfl
    · cases hi
  · cases h

/-! what the kernel is to reckon at once -/
section
variable {α : Type}
def nk (n : Nat) (k : Nat → α) : α := match n with
  | 0 => k 0
  | m + 1 => k (m + 1)
theorem nk_eq (n : Nat) (k : Nat → α) : nk n k = k n := by cases n <;> rfl
def ik (i : Int) (k : Int → α) : α := match i with
  | .ofNat n => nk n fun n => k (.ofNat n)
  | .negSucc n => nk n fun n => k (.negSucc n)
theorem ik_eq (n : Int) (k : Int → α) : ik n k = k n := by cases n <;> simp [ik, nk_eq]
def bk (b : Bool) (k : Bool → α) : α := match b with
  | true => k true
  | false => k false
theorem bk_eq (b : Bool) (k : Bool → α) : bk b k = k b := by cases b <;> rfl
def kk (x : IntKind) (k : IntKind → α) : α := match x with
  | .i8 => k .i8 | .i16 => k .i16 | .i32 => k .i32 | .i64 => k .i64 | .u8 => k .u8 | .u16 => k .u16 | .u32 => k .u32 | .u64 => k .u64
theorem kk_eq (x : IntKind) (k : IntKind → α) : kk x k = k x := by cases x <;> rfl
def byk (l : List UInt8) (k : List UInt8 → α) : α := match l with
  | [] => k []
  | b :: l => nk b.toNat fun n => byk l fun m => k (UInt8.ofNat n :: m)
theorem byk_eq (l : List UInt8) (k : List UInt8 → α) : byk l k = k l := by
  induction l generalizing k with
  | nil => rfl
  | cons b l ih => simp [byk, nk_eq, ih]
def lk (v : Value) (k : Value → α) : α := match v with
  | .int x n => ik n fun n => k (.int x n)
  | .bool b => bk b fun b => k (.bool b)
  | .string s => byk s.data.toList fun l => k (.string ⟨⟨l⟩⟩)
  | .pointer (some ⟨i, o, t⟩) => nk i fun i => nk o fun o => k (.pointer (some ⟨i, o, t⟩))
  | .slice (some ⟨i, o, t⟩) n c => nk i fun i => nk o fun o => nk n fun n => nk c fun c => k (.slice (some ⟨i, o, t⟩) n c)
  | .float x n => nk n fun n => k (.float x n)
  | .complex x n m => nk n fun n => nk m fun m => k (.complex x n m)
  | v => k v
theorem lk_eq (v : Value) (k : Value → α) : lk v k = k v := by
  unfold lk
  split <;> simp only [bk_eq, ik_eq, nk_eq, byk_eq]
def lks (l : List Value) (k : List Value → α) : α := match l with
  | [] => k []
  | v :: l => lk v fun v => lks l fun m => k (v :: m)
theorem lks_eq (l : List Value) (k : List Value → α) : lks l k = k l := by
  induction l generalizing k with
  | nil => rfl
  | cons b l ih => simp [lks, lk_eq, ih]
def ak (v : Value) (k : Value → α) : α := match v with
  | .int x n => ik n fun n => k (.int x n)
  | .bool b => bk b fun b => k (.bool b)
  | .agg cs => lks cs.toList fun l => k (.agg ⟨l⟩)
  | v => lk v k
theorem ak_eq (v : Value) (k : Value → α) : ak v k = k v := by
  unfold ak
  split
  · simp only [ik_eq]
  · simp only [bk_eq]
  · simp only [lks_eq]
  · exact lk_eq _ _
/-- the list itself, not what is in it -/
def spK (l : List Value) (k : List Value → α) : α := match l with
  | [] => k []
  | v :: l => spK l fun m => k (v :: m)
theorem spK_eq (l : List Value) (k : List Value → α) : spK l k = k l := by
  induction l generalizing k with
  | nil => rfl
  | cons b l ih => simp [spK, ih]
def aks (l : List Value) (k : List Value → α) : α := match l with
  | [] => k []
  | v :: l => ak v fun v => aks l fun m => k (v :: m)
theorem aks_eq (l : List Value) (k : List Value → α) : aks l k = k l := by
  induction l generalizing k with
  | nil => rfl
  | cons b l ih => simp [aks, ak_eq, ih]
def vk (v : Value) (k : Value → α) : α := match v with
  | .int x n => ik n fun n => k (.int x n)
  | .bool b => bk b fun b => k (.bool b)
  | .tuple cs => spK cs.toList fun l => k (.tuple ⟨l⟩)
  | .agg cs => spK cs.toList fun l => k (.agg ⟨l⟩)
  | .func f a b => lks a.toList fun a => lks b.toList fun b => k (.func f ⟨a⟩ ⟨b⟩)
  | .pointer (some ⟨i, o, t⟩) => nk i fun i => nk o fun o => k (.pointer (some ⟨i, o, t⟩))
  | .slice (some ⟨i, o, t⟩) n c => nk i fun i => nk o fun o => nk n fun n => nk c fun c => k (.slice (some ⟨i, o, t⟩) n c)
  | .string s => byk s.data.toList fun l => k (.string ⟨⟨l⟩⟩)
  | .float x n => nk n fun n => k (.float x n)
  | .complex x n m => nk n fun n => nk m fun m => k (.complex x n m)
  | v => k v
theorem vk_eq (v : Value) (k : Value → α) : vk v k = k v := by
  unfold vk
  split <;> simp only [ik_eq, bk_eq, spK_eq, lks_eq, nk_eq, byk_eq]
def vks (l : List Value) (k : List Value → α) : α := match l with
  | [] => k []
  | v :: l => vk v fun v => vks l fun m => k (v :: m)
theorem vks_eq (l : List Value) (k : List Value → α) : vks l k = k l := by
  induction l generalizing k with
  | nil => rfl
  | cons b l ih => simp [vks, vk_eq, ih]
def setK (l : List Value) (d : Nat) (v : Value) (k : List Value → α) : α := match l, d with
  | [], _ => k []
  | _ :: l, 0 => k (v :: l)
  | a :: l, d + 1 => setK l d v fun m => k (a :: m)
theorem setK_eq (l : List Value) (d : Nat) (v : Value) (k : List Value → α) : setK l d v k = k (l.set d v) := by
  induction l generalizing d k with
  | nil => rfl
  | cons b l ih => cases d <;> simp [setK, ih]
def blkK (b : Blk) (k : Blk → α) : α := spK b.cells fun cs => nk b.elem fun e => nk b.unit fun u => nk b.capN fun c => bk b.opn fun o => k ⟨cs, e, u, c, o⟩
theorem blkK_eq (b : Blk) (k : Blk → α) : blkK b k = k b := by simp [blkK, spK_eq, nk_eq, bk_eq]
def entK (e : Ent) (k : Ent → α) : α := match e with
  | .live b => blkK b fun b => k (.live b)
  | .dead => k .dead
  | .resv => k .resv
theorem entK_eq (e : Ent) (k : Ent → α) : entK e k = k e := by cases e <;> simp [entK, blkK_eq]
/-- the list up to a place, and what lies there -/
def revK (l : List Ent) (d : Nat) (k : List Ent → α) : α := match l, d with
  | [], _ => k []
  | e :: l, 0 => entK e fun e => k (e :: l)
  | e :: l, d + 1 => revK l d fun m => k (e :: m)
theorem revK_eq (l : List Ent) (d : Nat) (k : List Ent → α) : revK l d k = k l := by
  induction l generalizing d k with
  | nil => rfl
  | cons b l ih => cases d <;> simp [revK, entK_eq, ih]
def hpK (j : Nat) (H : Hp) (k : Hp → α) : α := match H with
  | ⟨n, rev⟩ => nk n fun n => revK rev (n - 1 - j) fun rev => k ⟨n, rev⟩
theorem hpK_eq (j : Nat) (H : Hp) (k : Hp → α) : hpK j H k = k H := by cases H; simp [hpK, nk_eq, revK_eq]
end
def blockOf : Value → Nat
  | .pointer (some a) => a.block
  | .slice (some a) _ _ => a.block
  | _ => 0
def forceH {α : Type} (at_ : Nat) (tm : Fr) (op : Op) (H' : Hp) (k : Hp → α) : α :=
  match op with
  | .store _ a _ => hpK (blockOf (evT tm a)) H' k
  | .call c => match c.args.toList with
    | a :: _ => hpK at_ H' fun H' => hpK (blockOf (evT tm a)) H' k
    | [] => k H'
  | _ => hpK at_ H' k
theorem forceH_eq {α : Type} (at_ : Nat) (tm : Fr) (op : Op) (H' : Hp) (k : Hp → α) : forceH at_ tm op H' k = k H' := by
  unfold forceH
  split
  · rw [hpK_eq]
  · split
    · rw [hpK_eq, hpK_eq]
    · rfl
  · rw [hpK_eq]

section
variable {P : Program} {N0 : Nat} {w0 w : World} {β : Bs} {H : Hp}

theorem Rb.unique {v a b : Value} (h : Rb β v a) (k : Rb β v b) : a = b := by
  cases h with
  | flat h => exact (k.eq_flat h).symm
  | ptr h => cases k with
    | flat k => simp [flat0] at k
    | ptr k => rw [h] at k; cases k; rfl
  | slc h => cases k with
    | flat k => simp [flat0] at k
    | slc k => rw [h] at k; cases k; rfl
theorem All2.unique {α γ : Type} {R : α → γ → Prop} (hr : ∀ a b c, R a b → R a c → b = c) {l : List α} {m n : List γ} (h : All2 R l m) (k : All2 R l n) : m = n := by
  induction h generalizing n with
  | nil => cases k; rfl
  | cons h _ ih => cases k with | cons k ks => rw [hr _ _ _ h k, ih ks]
theorem Ra.unique {v a b : Value} (h : Ra β v a) (k : Ra β v b) : a = b := by
  cases h with
  | base h => cases k with
    | base k => exact h.unique k
    | agg k => cases h with | flat h => simp [flat0] at h
  | agg h => cases k with
    | base k => cases k with | flat k => simp [flat0] at k
    | agg k => rw [All2.unique (R := Rb β) (fun _ _ _ h k => Rb.unique h k) h k]
theorem R0.unique {v a b : Value} (h : R0 β v a) (k : R0 β v b) : a = b := by
  cases h with
  | base h => cases k with
    | base k => exact h.unique k
    | func _ _ => cases h with | flat h => simp [flat0] at h
  | func h h' => cases k with
    | base k => cases k with | flat k => simp [flat0] at k
    | func k k' => rw [All2.unique (R := Ra β) (fun _ _ _ h k => Ra.unique h k) h k, All2.unique (R := Ra β) (fun _ _ _ h k => Ra.unique h k) h' k']
theorem All2.uniq0 {l m n : List Value} (h : All2 (R0 β) l m) (k : All2 (R0 β) l n) : m = n := All2.unique (R := R0 β) (fun _ _ _ h k => R0.unique h k) h k
theorem R1.unique {v a b : Value} (h : R1 β v a) (k : R1 β v b) : a = b := by
  cases h with
  | base h => cases k with
    | base k => exact h.unique k
    | agg k => cases h with | base h => cases h with | flat h => simp [flat0] at h
  | agg h => cases k with
    | base k => cases k with | base k => cases k with | flat k => simp [flat0] at k
    | agg k => rw [h.uniq0 k]
theorem All2.uniq1 {l m n : List Value} (h : All2 (R1 β) l m) (k : All2 (R1 β) l n) : m = n := All2.unique (R := R1 β) (fun _ _ _ h k => R1.unique h k) h k
theorem RV.unique {v a b : Value} (h : RV β v a) (k : RV β v b) : a = b := by
  cases h with
  | one h => cases k with
    | one k => exact h.unique k
    | tup k => cases h with | base h => cases h with | base h => cases h with | flat h => simp [flat0] at h
  | tup h => cases k with
    | one k => cases k with | base k => cases k with | base k => cases k with | flat k => simp [flat0] at k
    | tup k => rw [h.uniq1 k]

/-- what was known of an earlier heap, of a later world -/
theorem HR.weaken {β' : Bs} {H' : Hp} {w' : World} (h : HR N0 β H w) (h' : HR N0 β' H' w') (e : Ext β β') (hk : Keeps H H') : HR N0 β H w' := by
  refine ⟨?_, h.glob⟩
  intro i k hi
  obtain ⟨b, x, g1, g2⟩ := h.rd i k hi
  obtain ⟨b', x', q1, q2⟩ := h'.rd i k (hk i k hi)
  rw [e _ _ g1] at q1; cases q1
  refine ⟨b, x, g1, fun j v hj => ?_⟩
  obtain ⟨v1, _, r1⟩ := g2 j v hj
  obtain ⟨v2, c2, r2⟩ := q2 j v hj
  exact ⟨v2, c2, by rw [← (r1.mono e).unique r2]; exact r1⟩
theorem HR.ext {β' : Bs} (h : HR N0 β H w) (e : Ext β β') : HR N0 β' H w := ⟨fun i k hi => (h.rd i k hi).mono e, fun i hi => e _ _ (h.glob i hi)⟩

def putL (tm : Fr) (dst : Option Tmp) (v : Value) : Fr := match dst with | some d => tm.set d v | none => tm
/-- row number r, and what becomes of it -/
def rowsK {α : Type} (f : List (List Value)) (r c : Nat) (v : Value) (k : List (List Value) → α) : α := match f, r with
  | [], _ => k []
  | a :: f, 0 => setK a c v fun a => k (a :: f)
  | a :: f, r + 1 => rowsK f r c v fun f => k (a :: f)
theorem rowsK_eq {α : Type} (f : List (List Value)) (r c : Nat) (v : Value) (k : List (List Value) → α) : rowsK f r c v k = k (List.set f r ((List.getD f r []).set c v)) := by
  induction f generalizing r k with
  | nil => rfl
  | cons a f ih => cases r with
    | zero => simp [rowsK, setK_eq]
    | succ r => simp [rowsK, ih]
def putK {α : Type} (tm : Fr) (dst : Option Tmp) (v : Value) (k : Fr → α) : α := match dst with
  | some d => rowsK tm (d / 8) (d % 8) v k
  | none => k tm
theorem putK_eq {α : Type} (tm : Fr) (dst : Option Tmp) (v : Value) (k : Fr → α) : putK tm dst v k = k (putL tm dst v) := by
  cases dst with
  | none => rfl
  | some d => exact rowsK_eq tm (d / 8) (d % 8) v k
theorem Tm.put {tm : Fr} {a : Act} (h : Tm β tm a) (dst : Option Tmp) {v v' : Value} (hv : RV β v v') : Tm β (putL tm dst v) (a.put dst v') := by
  cases dst with
  | none => exact h
  | some d =>
    obtain ⟨h1, h2, h3⟩ := h
    refine ⟨fun t => ?_, h2, fun t => ?_⟩
    · show RV β ((tm.set d v).get t) ((a.tmps.setIfInBounds d v').getD t undef)
      rw [(Fr.get_set tm d v t).1]
      by_cases hc : t = d ∧ tm.has d
      · obtain ⟨rfl, hh⟩ := hc
        rw [if_pos ⟨rfl, hh⟩]
        have := (h3 t).1 hh
        simpa [this] using hv
      · rw [if_neg hc]
        by_cases htd : t = d
        · subst htd
          have hn : ¬ t < a.tmps.size := fun hlt => hc ⟨rfl, (h3 t).2 hlt⟩
          rw [Array.setIfInBounds_eq_of_size_le (by omega)]
          exact h1 t
        · have e : (a.tmps.setIfInBounds d v').getD t undef = a.tmps.getD t undef := by
            simp only [Array.getD_eq_getD_getElem?]
            rw [Array.getElem?_setIfInBounds_ne (fun h => htd h.symm)]
          rw [e]; exact h1 t
    · show (tm.set d v).has t ↔ t < (a.tmps.setIfInBounds d v').size
      rw [(Fr.get_set tm d v t).2, h3 t]; simp
theorem Tm.mono {β' : Bs} (e : Ext β β') {tm : Fr} {a : Act} (h : Tm β tm a) : Tm β' tm a := ⟨fun t => (h.1 t).mono e, h.2⟩

def boolOf : Value → Option Bool
  | .bool b => some b
  | _ => none
theorem RV.boolOf {v v' : Value} (h : RV β v v') : boolOf v' = boolOf v := by
  cases h with
  | tup _ => rfl
  | one h => cases h with
    | agg _ => rfl
    | base h => cases h with
      | func _ _ => rfl
      | base h => cases h <;> rfl
def yieldedL (ops : Array Oper) (tm : Fr) (j : Nat) : Option Bool := ((ops[j]?).bind (·.dst)).bind fun d => boolOf (tm.get d)
theorem yieldedL_ok {tm : Fr} {a : Act} (h : Tm β tm a) (ops : Array Oper) : yieldedL ops tm = yielded ops a.tmps := by
  funext j
  unfold yieldedL yielded
  cases hd : (ops[j]?).bind (·.dst) with
  | none => simp
  | some d =>
    simp only [Option.bind_some]
    have hr := h.1 d
    rw [← hr.boolOf]
    simp only [Array.getD_eq_getD_getElem?]
    cases a.tmps[d]? with
    | none => rfl
    | some v' => cases v' <;> rfl

abbrev CallF := FuncId → List Value → Hp → Option (Value × Hp)
def CallOk (P : Program) (N0 : Nat) (w0 : World) (call : CallF) : Prop :=
  ∀ f args args' β H w v H', call f args H = some (v, H') → isFn P f = true → All2 (RV β) args args' → HS N0 w0 β H w →
    Calls P f args'.toArray w fun e w' => ∃ v' β', e = .returned v' ∧ Ext β β' ∧ RV β' v v' ∧ HS N0 w0 β' H' w'

def aDo (P : Program) (N0 : Nat) (call : CallF) (tm : Fr) (H : Hp) (at_ : Nat) (o : Oper) : Option (Fr × Hp) :=
  match isLoud o.op with
  | false => match aQ P H tm o with
    | some v => vk v fun v => putK tm o.dst v fun tm' => some (tm', H)
    | none => none
  | true => match aL P N0 H at_ (evT tm) o.op with
    | some (.val v H') => vk v fun v => forceH at_ tm o.op H' fun H' => putK tm o.dst v fun tm' => some (tm', H')
    | some (.enter f args) => vks args fun args => match call f args H with
      | some (v, H') => putK tm o.dst v fun tm' => some (tm', H')
      | none => none
    | none => none
theorem aDo_ok (hn : namesOk P = true) {call : CallF} (hc : CallOk P N0 w0 call) {tm tm' : Fr} {H' : Hp} {o : Oper} {at_ : Nat} (hok : opOk N0 o = true) (h : aDo P N0 call tm H at_ o = some (tm', H')) {a : Act} (ht : Tm β tm a) (hs : HS N0 w0 β H w)
    {K : Act → World → Prop} {Q : Exit → Act → World → Prop} (hk : ∀ β' a' w', Ext β β' → Tm β' tm' a' → HS N0 w0 β' H' w' → K a' w') : o.wp P a w K Q := by
  unfold aDo at h
  split at h
  · split at h
    · rename_i v hv
      simp only [vk_eq, putK_eq, Option.some.injEq, Prod.mk.injEq] at h
      obtain ⟨rfl, rfl⟩ := h
      obtain ⟨v', hr, hv'⟩ := aQ_ok hok hv ht hs.toHR
      unfold Oper.wp
      rw [hr]; exact hk β _ _ (Ext.refl _) (ht.put o.dst hv') hs
    · cases h
  · have hev := opOk_ev hok ht hs.toHR
    split at h
    · rename_i v H1 hop
      simp only [vk_eq, forceH_eq, putK_eq, Option.some.injEq, Prod.mk.injEq] at h
      obtain ⟨rfl, rfl⟩ := h
      obtain ⟨v', w', β', hr, e, hv, hs'⟩ := aL_ok hn hop hev hs
      unfold Oper.wp
      rcases hr with hr | ⟨hr, rfl⟩
      · rw [hr]; exact hk β' _ _ e ((ht.mono e).put o.dst hv) hs'
      · rw [hr]; exact hk β' _ _ e ((ht.mono e).put o.dst hv) hs'
    · rename_i f args hop
      obtain ⟨args', ha, hfn, hr⟩ := aL_ok hn hop hev hs
      simp only [vks_eq] at h
      split at h
      · rename_i v H1 hcall
        simp only [putK_eq, Option.some.injEq, Prod.mk.injEq] at h
        obtain ⟨rfl, rfl⟩ := h
        unfold Oper.wp
        rw [hr, Oper.upon_enter]
        refine (hc f args args' β H w v H1 hcall hfn ha hs).mono ?_
        rintro e w' ⟨v', β', rfl, e', hv, hs'⟩
        exact hk β' _ _ e' ((ht.mono e').put o.dst hv) hs'
      · cases h
    · cases h

def aOps (P : Program) (N0 : Nat) (call : CallF) (ops : Array Oper) : List Oper → Fr → Hp → Option (Fr × Hp)
  | [], tm, H => some (tm, H)
  | o :: rest, tm, H => match Region.wanted o (yieldedL ops tm) with
      | true => match aDo P N0 call tm H H.n o with
        | some (tm', H') => aOps P N0 call ops rest tm' H'
        | none => none
      | false => putK tm o.dst undef fun tm => aOps P N0 call ops rest tm H
theorem aOps_ok (hn : namesOk P = true) {call : CallF} (hc : CallOk P N0 w0 call) (ops : Array Oper) (hok : ∀ o ∈ ops.toList, opOk N0 o = true) {Q : Exit → Act → World → Prop} : ∀ (l pre : List Oper) {β : Bs} {H : Hp} {w : World} {tm tm' : Fr} {H' : Hp} {a : Act},
    ops.toList = pre ++ l → aOps P N0 call ops l tm H = some (tm', H') → Tm β tm a → HS N0 w0 β H w → (∀ β' a' w', Ext β β' → Tm β' tm' a' → HS N0 w0 β' H' w' → Q .normal a' w') → wpOps P ops Q (List.range' pre.length l.length) a w
  | [], pre, β, H, w, tm, tm', H', a, hl, h, ht, hs, hk => by
    simp only [aOps, Option.some.injEq, Prod.mk.injEq] at h
    obtain ⟨rfl, rfl⟩ := h
    exact hk β a w (Ext.refl _) ht hs
  | o :: rest, pre, β, H, w, tm, tm', H', a, hl, h, ht, hs, hk => by
    have ho : ops[pre.length]? = some o := by
      rw [← Array.getElem?_toList, hl, List.getElem?_append_right (Nat.le_refl _)]; simp
    have hl2 : ops.toList = (pre ++ [o]) ++ rest := by rw [hl]; simp
    have ih := fun {β : Bs} {H : Hp} {w : World} {tm tm' : Fr} {H' : Hp} {a : Act} => @aOps_ok hn call hc ops hok Q rest (pre ++ [o]) β H w tm tm' H' a hl2
    simp only [List.length_append, List.length_cons, List.length_nil, Nat.zero_add] at ih
    simp only [aOps] at h
    simp only [List.length_cons, List.range'_succ, wpOps, ho]
    rw [← yieldedL_ok ht]
    cases hw : Region.wanted o (yieldedL ops tm) with
    | true =>
      rw [hw] at h
      simp only at h
      simp only [if_true]
      split at h
      · rename_i tm1 H1 hd
        refine .inl (aDo_ok hn hc (hok o (by rw [hl]; simp)) hd ht hs fun β' a' w' e ht' hs' => ?_)
        exact ih h ht' hs' fun β2 a2 w2 e2 => hk β2 a2 w2 (e.trans e2)
      · cases h
    | false =>
      rw [hw] at h
      simp only [putK_eq] at h
      simp only [Bool.false_eq_true, if_false]
      exact ih h (ht.put _ .undef) hs hk

/-! any order -/
def afterOk (ls : List Bool) : List Edge → Bool
  | [] => true
  | e :: l => match Region.binds .any e with
    | true => match ls.getD e.on false with
      | true => afterOk ls l
      | false => false
    | false => afterOk ls l
theorem afterOk_eq (ls : List Bool) : ∀ l : List Edge, afterOk ls l = l.all fun e => !Region.binds .any e || ls.getD e.on false
  | [] => rfl
  | e :: l => by
    simp only [afterOk, List.all_cons, afterOk_eq ls l]
    cases Region.binds .any e <;> cases ls.getD e.on false <;> simp
/-- which operations may come up -/
def readyL (ls : List Bool) : Nat → List Oper → List Bool → List Nat
  | i, o :: ops, b :: bs => match b with
    | true => readyL ls (i + 1) ops bs
    | false => match afterOk ls o.after.toList with
      | true => i :: readyL ls (i + 1) ops bs
      | false => readyL ls (i + 1) ops bs
  | _, _, _ => []
def readyF (ops : Array Oper) (listed : Array Bool) : List Nat := readyL listed.toList 0 ops.toList listed.toList
theorem readyF_eq (ops : Array Oper) (listed : Array Bool) : readyF ops listed = Region.ready .any ops listed := by
  have key : ∀ (suf pre : List Oper) (suf' pre' : List Bool), ops.toList = pre ++ suf → listed.toList = pre' ++ suf' → pre.length = pre'.length →
      readyL listed.toList pre.length suf suf' = (List.range' pre.length suf.length).filter fun i => !listed.getD i true && ((ops[i]?).map (·.after.all fun e => !Region.binds .any e || listed.getD e.on false)).getD false := by
    intro suf
    induction suf with
    | nil => intro pre suf' pre' _ _ _; cases suf' <;> rfl
    | cons o suf ih =>
      intro pre suf' pre' h1 h2 h3
      cases suf' with
      | nil =>
        have hs : listed.size = pre.length := by rw [← Array.length_toList, h2]; simp [h3]
        simp only [readyL]
        symm
        rw [List.filter_eq_nil_iff]
        intro i hi
        have := (List.mem_range'_1.1 hi).1
        have hn : listed.getD i true = true := by rw [Array.getD_eq_getD_getElem?, Array.getElem?_eq_none (by omega)]; rfl
        simp [hn]
      | cons b bs =>
        have ho : ops[pre.length]? = some o := by rw [← Array.getElem?_toList, h1, List.getElem?_append_right (Nat.le_refl _)]; simp
        have hb : listed.getD pre.length true = b := by rw [Array.getD_eq_getD_getElem?, ← Array.getElem?_toList, h2, h3, List.getElem?_append_right (Nat.le_refl _)]; simp
        have hih := ih (pre ++ [o]) bs (pre' ++ [b]) (by rw [h1]; simp) (by rw [h2]; simp) (by simp [h3])
        rw [List.length_append, List.length_cons, List.length_nil, Nat.zero_add] at hih
        rw [List.length_cons, List.range'_succ, List.filter_cons, hb, ho]
        have ha : (Option.map (fun x : Oper => x.after.all fun e => !Region.binds .any e || listed.getD e.on false) (some o)).getD false = afterOk listed.toList o.after.toList := by
          rw [afterOk_eq]
          simp only [Option.map_some, Option.getD_some]
          rw [← Array.all_toList]
          congr 1
          funext e
          simp [Array.getD_eq_getD_getElem?, List.getD_eq_getElem?_getD]
        rw [ha]
        simp only [readyL]
        cases b with
        | true => simpa using hih
        | false =>
          cases afterOk listed.toList o.after.toList with
          | true => simp only [Bool.not_false, Bool.and_self, if_true]; rw [hih]
          | false => simpa using hih
  have := key ops.toList [] listed.toList [] rfl rfl rfl
  unfold readyF Region.ready
  rw [List.range_eq_range']
  simpa using this
/-- the value of an operation that may be taken first; Hs: the heap that stands throughout the region -/
def aQuiet (P : Program) (ops : Array Oper) (Hs : Hp) (listed : Array Bool) (tm : Fr) (i : Nat) : Option (Option Tmp × Value) :=
  match ops[i]? with
  | some o =>
    match isLoud o.op with
    | true => match Region.wanted o (yieldedL ops tm) with
      | true => none
      | false => match Region.free .any ops listed i with
        | true => some (o.dst, undef)
        | false => none
    | false => match Region.free .any ops listed i with
      | true => match Region.wanted o (yieldedL ops tm) with
        | true => match aQ P Hs tm o with
          | some v => some (o.dst, v)
          | none => none
        | false => some (o.dst, undef)
      | false => none
  | none => none
def firstQuiet (P : Program) (ops : Array Oper) (Hs : Hp) (listed : Array Bool) (tm : Fr) : List Nat → Option (Nat × Option Tmp × Value)
  | [] => none
  | i :: l => match aQuiet P ops Hs listed tm i with
    | some (d, v) => some (i, d, v)
    | none => firstQuiet P ops Hs listed tm l
def beqFr : List (List Value) → List (List Value) → Bool
  | [], [] => true
  | a :: l, b :: m => beq1s a b && beqFr l m
  | _, _ => false
theorem beqFr_ok : ∀ {a b : List (List Value)}, beqFr a b = true → a = b
  | [], [], _ => rfl
  | a :: l, b :: m, h => by
    simp only [beqFr, Bool.and_eq_true] at h
    rw [beq1s_ok h.1, beqFr_ok h.2]
  | [], _ :: _, h => by simp [beqFr] at h
  | _ :: _, [], h => by simp [beqFr] at h
def beqSt (a b : Fr × Hp) : Bool := beqFr a.1 b.1 && beqHp a.2 b.2
theorem beqSt_ok {a b : Fr × Hp} (h : beqSt a b = true) : a = b := by
  simp only [beqSt, Bool.and_eq_true] at h
  exact Prod.ext (beqFr_ok h.1) (beqHp_ok h.2)
/-- how many operations that change something stand ahead -/
def rank : List Oper → Nat → Nat
  | [], _ => 0
  | _, 0 => 0
  | o :: l, i + 1 => match isLoud o.op with
    | true => rank l i + 1
    | false => rank l i
/-- one operation out of order -/
def aOne (P : Program) (N0 : Nat) (call : CallF) (ops : Array Oper) (Hs : Hp) (base : Option Nat) (tm : Fr) (H : Hp) (i : Nat) : Option (Fr × Hp) :=
  match ops[i]? with
  | none => none
  | some o => match Region.wanted o (yieldedL ops tm) with
    | true => match aDo P N0 call tm H (match base with | some b => b + rank ops.toList i | none => H.n) o with
      | some (tm', H') => match keepsB Hs H' with
        | true => some (tm', H')
        | false => none
      | none => none
    | false => putK tm o.dst undef fun tm => some (tm, H)
/-- all of a list come to the same -/
def allSame (f : Nat → Option (Fr × Hp)) : List Nat → Option (Fr × Hp)
  | [] => none
  | [i] => f i
  | i :: l => match f i, allSame f l with
    | some a, some b => match beqSt a b with
      | true => some a
      | false => none
    | _, _ => none
theorem allSame_ok {f : Nat → Option (Fr × Hp)} : ∀ {l : List Nat} {r : Fr × Hp}, allSame f l = some r → ∀ i ∈ l, f i = some r
  | [], r, h => by simp [allSame] at h
  | [i], r, h => by intro j hj; simp at hj; subst hj; exact h
  | i :: k :: l, r, h => by
    simp only [allSame] at h
    split at h
    · rename_i a b ha hb
      split at h
      · rename_i he
        simp only [Option.some.injEq] at h; subst h
        have := beqSt_ok he; subst this
        intro j hj
        cases hj with
        | head => exact ha
        | tail _ hj => exact allSame_ok hb j hj
      · cases h
    · cases h
def setB {α : Type} (l : List Bool) (d : Nat) (k : List Bool → α) : α := match l, d with
  | [], _ => k []
  | _ :: l, 0 => k (true :: l)
  | a :: l, d + 1 => setB l d fun m => k (a :: m)
theorem setB_eq {α : Type} (l : List Bool) (d : Nat) (k : List Bool → α) : setB l d k = k (l.set d true) := by
  induction l generalizing d k with
  | nil => rfl
  | cons b l ih => cases d <;> simp [setB, ih]
def lsK {α : Type} (l : Array Bool) (i : Nat) (k : Array Bool → α) : α := setB l.toList i fun m => k ⟨m⟩
theorem lsK_eq {α : Type} (l : Array Bool) (i : Nat) (k : Array Bool → α) : lsK l i k = k (l.setIfInBounds i true) := by
  unfold lsK
  rw [setB_eq]
  congr 1
  apply Array.ext'; simp
def aAny (P : Program) (N0 : Nat) (call : CallF) (ops : Array Oper) (Hs : Hp) (base : Option Nat) : Nat → Array Bool → Fr → Hp → Option (Fr × Hp)
  | 0, listed, tm, H => match readyF ops listed with
    | [] => some (tm, H)
    | _ => none
  | n + 1, listed, tm, H => match readyF ops listed with
    | [] => some (tm, H)
    | rs => match firstQuiet P ops Hs listed tm rs with
      | some (i, d, v) => vk v fun v => putK tm d v fun tm => lsK listed i fun listed => aAny P N0 call ops Hs base n listed tm H
      | none => allSame (fun i => match aOne P N0 call ops Hs base tm H i with
        | some (tm', H') => lsK listed i fun listed => aAny P N0 call ops Hs base n listed tm' H'
        | none => none) rs
theorem firstQuiet_ok {ops : Array Oper} {Hs : Hp} {listed : Array Bool} {tm : Fr} : ∀ {l : List Nat} {i : Nat} {d : Option Tmp} {v : Value}, firstQuiet P ops Hs listed tm l = some (i, d, v) → i ∈ l ∧ aQuiet P ops Hs listed tm i = some (d, v)
  | [], _, _, _, h => by simp [firstQuiet] at h
  | j :: l, i, d, v, h => by
    simp only [firstQuiet] at h
    split at h
    · rename_i d' v' hq
      cases h
      exact ⟨by simp, hq⟩
    · obtain ⟨h1, h2⟩ := firstQuiet_ok h
      exact ⟨by simp [h1], h2⟩
theorem aAny_ok (hn : namesOk P = true) {call : CallF} (hc : CallOk P N0 w0 call) {ops : Array Oper} (hok : ∀ o ∈ ops.toList, opOk N0 o = true) (hsel : Region.noSelect ops = true) {Hs : Hp} {βs : Bs} {base : Option Nat}
    {tm' : Fr} {H' : Hp} : ∀ (n : Nat) {listed : Array Bool} {tm : Fr} {H : Hp} {β : Bs} {a : Act} {w : World}, aAny P N0 call ops Hs base n listed tm H = some (tm', H') → Ext βs β → Tm β tm a → HS N0 w0 β H w → HR N0 βs Hs w →
    wpAnyH P .any ops (fun e a' w' => e = .normal ∧ ∃ β', Ext βs β' ∧ Tm β' tm' a' ∧ HS N0 w0 β' H' w') (HR N0 βs Hs) n listed a w
  | 0, listed, tm, H, β, a, w, h, e, ht, hs, hS => by
    simp only [aAny, readyF_eq] at h
    split at h
    · rename_i hr
      simp only [Option.some.injEq, Prod.mk.injEq] at h
      obtain ⟨rfl, rfl⟩ := h
      exact wpAnyH_done hr ⟨rfl, β, e, ht, hs⟩ 0
    · cases h
  | n + 1, listed, tm, H, β, a, w, h, e, ht, hs, hS => by
    simp only [aAny, readyF_eq] at h
    split at h
    · rename_i hr
      simp only [Option.some.injEq, Prod.mk.injEq] at h
      obtain ⟨rfl, rfl⟩ := h
      exact wpAnyH_done hr ⟨rfl, β, e, ht, hs⟩ _
    · rename_i rs hne
      split at h
      · rename_i i d v hq
        simp only [vk_eq, putK_eq, lsK_eq] at h
        obtain ⟨hi, hq⟩ := firstQuiet_ok hq
        unfold aQuiet at hq
        split at hq
        · rename_i o ho
          have hoo : opOk N0 o = true := hok o (by have := Array.mem_of_getElem? ho; simpa using this)
          have key : Region.free .any ops listed i = true ∧ ∃ v', RV β v v' ∧ d = o.dst ∧ YieldsIf P ops (HR N0 βs Hs) o v' a := by
            split at hq
            · split at hq
              · cases hq
              · rename_i hw
                split at hq
                · rename_i hfree
                  cases hq
                  exact ⟨hfree, undef, .undef, rfl, .inr ⟨by rw [← yieldedL_ok ht]; exact hw, rfl⟩⟩
                · cases hq
            · split at hq
              · rename_i hfree
                refine ⟨hfree, ?_⟩
                split at hq
                · rename_i hw
                  split at hq
                  · rename_i v1 hop
                    cases hq
                    obtain ⟨v', _, hv⟩ := aQ_ok hoo hop ht (hS.ext e)
                    refine ⟨v', hv, rfl, .inl ⟨by rw [← yieldedL_ok ht]; exact hw, fun w' hS' => ?_⟩⟩
                    obtain ⟨v2, h7, hv2⟩ := aQ_ok hoo hop ht (hS'.ext e)
                    rw [hv.unique hv2]; exact h7
                  · cases hq
                · rename_i hw
                  cases hq
                  exact ⟨undef, .undef, rfl, .inr ⟨by rw [← yieldedL_ok ht]; exact hw, rfl⟩⟩
              · cases hq
          obtain ⟨hfree, v', hv, rfl, hy⟩ := key
          refine wpAnyH_take ho hsel hfree (by simpa using hi) (fun c a w h => by simp at h) hy hS ?_
          exact aAny_ok hn hc hok hsel n h e (ht.put _ hv) hs hS
        · cases hq
      · have hall := allSame_ok h
        refine wpAnyH_all rfl (by intro h0; exact hne h0) fun i hi => ?_
        have hi := hall i hi
        split at hi
        · rename_i tm1 H1 h1
          simp only [lsK_eq] at hi
          unfold aOne at h1
          unfold wpOp
          split at h1
          · cases h1
          · rename_i o ho
            have hoo : opOk N0 o = true := hok o (by have := Array.mem_of_getElem? ho; simpa using this)
            simp only [ho]
            rw [← yieldedL_ok ht]
            split at h1
            · rename_i hw
              rw [hw]
              simp only [if_true]
              split at h1
              · rename_i tm2 H2 hd
                split at h1
                · rename_i hk
                  cases h1
                  refine .inl (aDo_ok hn hc hoo hd ht hs fun β1 a1 w1 e1 ht1 hs1 => ⟨hS.weaken hs1.toHR (e.trans e1) (keepsB_ok hk), ?_⟩)
                  exact aAny_ok hn hc hok hsel n hi (e.trans e1) ht1 hs1 (hS.weaken hs1.toHR (e.trans e1) (keepsB_ok hk))
                · cases h1
              · cases h1
            · rename_i hw
              simp only [putK_eq] at h1
              cases h1
              rw [hw]
              simp only [Bool.false_eq_true, if_false]
              exact ⟨hS, aAny_ok hn hc hok hsel n hi e (ht.put _ .undef) hs hS⟩
        · cases hi
end
end Go.Proofs.Ytmmhoemddfncmaa
