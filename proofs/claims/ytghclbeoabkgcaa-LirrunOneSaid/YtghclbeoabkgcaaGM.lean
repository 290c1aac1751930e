/- What the laws of layer 16 need of programs and memories. -/
import Derived.Test.YtghclbeoabkgcaaGJ
import Derived.Test.YtghclbeoabkgcaaGK
import Derived.Test.YtghclbeoabkgcaaGL
import Derived.Test.YtghclbeoabkgcaaGH
import Derived.Test.YtghclbeoabkgcaaOpen
import Derived.Test.YtghclbeoabkgcaaGI
namespace Go.Proofs.Ytghclbeoabkgcaa
open Go Go.RowKit Go.ChangeShapes Go.WideShapes Go.ChangeAt Pl
set_option linter.unusedVariables false

set_option maxRecDepth 100000 in
theorem lop_in {H : Type} {enc : TypeId × Value → H} {w : World} {r : Reach} {b base : Nat} {spare : Nat → Bool} {held : Bool} {v : Value} {d : DataW H} {p : List MemPlace}
    (hv : Value.okWide Try.prog w r b 27 v) (h : DataW.Trod enc Try.prog w base spare held 27 v d p) : ∃ (a : Option Addr) (c : Nat) (l : List Q5), v = .slice a l.length c ∧ L5In w a l c := by
  refine lops_in Try.underlying27 Try.underlying29 (by kernel_rfl) (by rfl) (by kernel_rfl) ?_ hv h
  intro j f hf
  match j, hf with
  | 0, hf => simp at hf; subst hf; exact Try.underlying3
  | 1, hf => simp at hf; subst hf; exact Try.underlying3
  | 2, hf => simp at hf; subst hf; exact Try.underlying3
  | 3, hf => simp at hf; subst hf; exact Try.underlying3
  | 4, hf => simp at hf; subst hf; exact Try.underlying21
  | j + 5, hf => simp at hf
theorem l5_far {w w' : World} {a : Option Addr} {l : List Q5} (h : L5 w a l) (ho : Out (fun j => w.heap.size ≤ j) w w') : L5 w' a l := by
  obtain ⟨h1, h2 | ⟨b, off, rfl, hlt, hc⟩⟩ := h
  · exact ⟨h1, Or.inl h2⟩
  · exact l5_outV ⟨h1, Or.inr ⟨b, off, rfl, hlt, hc⟩⟩ ho (by omega)
theorem l5_not {w : World} {a : Option Addr} {l : List Q5} {R : Nat} (h : L5 w a l) (hR : w.heap.size ≤ R) : l = [] ∨ ∀ x, a = some x → x.block ≠ R := by
  obtain ⟨_, h2 | ⟨b, off, rfl, hlt, hc⟩⟩ := h
  · exact .inl h2
  · exact .inr fun x hx => by cases hx; show b ≠ R; omega
def K16 : Bk := ⟨4096, 2147483648, noughts 256⟩
theorem setB_len {t : List Nat} (h : t.length ≤ 128) : (setB (noughts 128) 0 t).length = 128 := by
  rw [setB_length _ _ _ (by rw [noughts_lenM]; omega), noughts_lenM]
theorem banks16 {t : List Nat} (h : t.length ≤ 128) : Banks K16.ff K16.Fb.length K16.rr (setB (noughts 128) 0 t).length := by
  rw [setB_len h, show K16.Fb.length = 256 from noughts_lenM 256]
  exact banks_mapM
theorem take100 (l : List Nat) : (l.take 100).length ≤ 128 := by rw [List.length_take]; omega
end Go.Proofs.Ytghclbeoabkgcaa

namespace Go.Proofs.Ytghclbeoabkgcaa
open Go Go.RowKit Pl
set_option linter.unusedVariables false

set_option maxRecDepth 100000 in
set_option maxHeartbeats 2000000 in
theorem sameV_eq (g c : Nat) (A : Array Value) (f : Nat → Int) (w : World) (hA : ∀ k, k < 64 → A[k]? = some (.int .u32 (f k))) (hc : ∀ k, k < 64 → w.cell? ⟨g, k, none⟩ = some (.int .u32 (f k))) (hg : g < w.heap.size) :
    Calls Try.prog 23 #[.slice (some ⟨g, 0, none⟩) 64 c, .agg A] w fun e w' => e = .returned (.bool true) ∧ Below w.heap.size w w' := by
  have HC := Lib.hid hc
  have HA := Lib.hid (show ∀ k, k < 64 → (w.alloc (.cells A 47)).cell? ⟨w.heap.size, k, none⟩ = some (.int .u32 (f k)) from fun k hk => by rw [World.cell?_alloc_new]; exact hA k hk)
  have HB := Lib.hid (show Below w.heap.size w (w.alloc (.cells A 47)) from (Below.refl _ _).alloc (Nat.le_refl _) _)
  clear hc hA
  go_enter Try.func23, Try.ntmps23
  go_wp2_with fail
  obtain ⟨H, hH⟩ : ∃ H, w.heap.size = H := ⟨_, rfl⟩
  obtain ⟨W, hW⟩ : ∃ W, w.alloc (.cells A 47) = W := ⟨_, rfl⟩
  rw [hW] at HA HB ⊢
  rw [hH] at HA ⊢
  clear hW hH
  go_loopw [5] (fun i wr => ∃ k n : Nat, k ≤ 64 ∧ i = .int .i64 k ∧ wr = W.drewN n) (fun i _ => 64 - (intOf i).toNat)
  case atStart => exact ⟨0, 0, by omega, rfl, rfl⟩
  case round =>
    obtain ⟨k, n, hk, rfl, rfl⟩ := hrel
    have u1 := IntWalk.i64_in ((k : Int) + 1) (by omega)
    have g0 : (0 : Int) ≤ (k : Int) := by omega
    by_cases hlt : k < 64
    · have t1 : decide ((k : Int) < 64) = true := by simp; omega
      have g1 : (k : Int) < 64 := by omega
      have p0 := HA.out k hlt
      have q0 := (HB.out.cell (p := ⟨g, k, none⟩) hg).trans (HC.out k hlt)
      go_wp2_with fail
      go_quiet (fail)
      go_wp2_with fail
      go_roundw
      case measure => first | (simp [intOf]; done) | (simp [intOf]; omega)
      case rel => exact ⟨k + 1, _, by omega, by go_num, rfl⟩
    · obtain rfl : k = 64 := by omega
      have BE := Lib.hid (show Below w.heap.size w (W.drewN n) from HB.out.trans ⟨rfl, rfl, rfl, Nat.le_refl _, fun _ _ => rfl⟩)
      go_wp2_with fail
      go_ret
      exact ⟨rfl, BE.out⟩
set_option maxRecDepth 100000 in
set_option maxHeartbeats 2000000 in
theorem bytesV_eq {M F R X Bs : Nat} {Fb b : List Nat} {L : List (Nat × Nat)} {v : Value} {w : World} (hm : MemIs M F R 4096 2147483648 Fb b w) (hF : Fb.length = 256) (hb : b.length = 128) (hx : RefIs X Bs 4096 256 2147483648 128 L v w) (hag : Agree 4096 2147483648 Fb b L) :
    Calls Try.prog 24 #[.pointer (some ⟨M, 0, none⟩), .pointer (some ⟨X, 0, none⟩)] w fun e w' => e = .returned (.bool true) ∧ Below w.heap.size w w' := by
  have LO := Lib.hid (show ∀ (m : Nat), m < 128 → ∀ W', LikeG w W' → Calls Try.prog 55 #[.pointer (some ⟨M, 0, none⟩), .int .u32 (2147483648 + (m : Int)), .int .i64 1] W' (LoadPost W' (b.getD m 0) 0) from fun m hm' W' hl => by
    have k := load_any (hm.like hl) (by rw [hF, hb]; exact banks_mapM) (2147483648 + m) 1 (by omega) (.inl rfl)
    have e : loadS 4096 Fb.length 2147483648 b.length Fb b (2147483648 + m) 1 = (b.getD m 0, 0) := by
      unfold loadS
      rw [if_neg (by omega), if_neg (by unfold inB; simp; omega), if_pos (by unfold inB; simp; omega), show 2147483648 + m - 2147483648 = m by omega, bytes1 (by omega)]
    rw [e] at k
    rwa [show (((2147483648 + m : Nat) : Nat) : Int) = 2147483648 + (m : Int) by omega] at k)
  have AT := Lib.hid (show ∀ (m : Nat), m < 128 → ∀ W', LikeG w W' → Calls Try.prog 56 #[.pointer (some ⟨X, 0, none⟩), .int .u32 (2147483648 + (m : Int))] W' fun e w' => e = .returned (.int .u8 (b.getD m 0 : Nat)) ∧ W' = w' from fun m hm' W' hl => by
    have k := at_any (hx.like hl) (2147483648 + m) (by omega)
    rw [hag.2 m (by omega)] at k
    rwa [show (((2147483648 + m : Nat) : Nat) : Int) = 2147483648 + (m : Int) by omega] at k)
  have B8 := Lib.hid (show ∀ m, b.getD m 0 < 256 from fun m => getD_lt hm.fR m)
  clear hm hx hag
  go_enter Try.func24, Try.ntmps24
  go_wp2_with fail
  go_loopw [5] (fun i wr => ∃ m : Nat, m ≤ 128 ∧ i = .int .u32 m ∧ LikeG w wr) (fun i _ => 128 - (intOf i).toNat)
  case atStart => exact ⟨0, by omega, rfl, .refl _⟩
  case round =>
    obtain ⟨m, hm, rfl, hL⟩ := hrel
    have HL := Lib.hid hL
    clear hL
    have g0 : (0 : Int) ≤ (m : Int) := by omega
    by_cases hlt : m < 128
    · have t1 : decide ((m : Int) < 128) = true := by simp; omega
      have g1 : (m : Int) < 128 := by omega
      have z8 := B8.out m
      have LOM := Lib.hid (LO.out m hlt)
      have ATM := Lib.hid (AT.out m hlt)
      clear LO AT B8
      generalize b.getD m 0 = y at *
      go_wp2_with fail
      refine (LOM.out wr HL.out).mono ?_
      rintro e w1 ⟨rfl, lk⟩
      have L1 := Lib.hid (HL.out.trans lk)
      clear lk
      go_wp2_with fail
      refine (ATM.out w1 L1.out).mono ?_
      rintro e w2 ⟨rfl, rfl⟩
      have yw : IntKind.u32.wrap (y : Int) = (y : Int) := wrap_in_u32 _ (by omega) (by omega)
      have ym : (y : Int) % 4294967296 = (y : Int) := by omega
      have y0 : (0 : Int) ≤ (y : Int) := by omega
      have ye : ((y : Int) != (y : Int)) = false := by simp
      go_wp2_with fail
      exact ⟨⟨m + 1, by omega, by go_num, L1.out⟩, by first | (simp [intOf]; done) | (simp [intOf]; omega)⟩
    · obtain rfl : m = 128 := by omega
      have BE := Lib.hid (HL.out.2 _ _ (Below.refl w.heap.size w))
      go_wp2_with fail
      go_ret
      exact ⟨rfl, BE.out⟩
end Go.Proofs.Ytghclbeoabkgcaa

namespace Go.Proofs.Ytghclbeoabkgcaa
open Go Go.RowKit Pl
set_option linter.unusedVariables false

theorem wpList_append_zero {P : Program} {ops : Array Oper} {rest : List Oper} {o : Oper} {a : Act} {w : World} {Q : Exit → Act → World → Prop} (hgd : o.guard = none) (s x : Operand) (t : TypeId)
    (ho : o.op = .call { callee := .builtin .append, args := #[s, x], argTypes := #[t, t] })
    (e : TypeId) (i : TypeInfo) (z : Value) (ht : P.underlying t = some (.slice e)) (hi : P.info? e = some i) (hz : i.zero = some z)
    (g : Nat) (hs : a.eval s = .slice (some ⟨g, 0, none⟩) 0 0) (ad : Option Addr) (c : Nat) (hx : a.eval x = .slice ad 0 c)
    (h : wpList P ops Q rest (a.put o.dst (.slice (some ⟨g, 0, none⟩) 0 0)) w) : wpList P ops Q (o :: rest) a w := by
  refine wpList_plain hgd fun K hK => ?_
  have hr := run_append_zero (P := P) (ty := o.type) ht hi hz g ad c w
  unfold Oper.wp execOp
  simp only [ho, resolve, invoke, builtin, Sem.run_bind, Sem.run_pure, Result.andThen_ok, List.map_toArray, List.map_cons, List.map_nil, hs, hx, hr]
  exact hK _ _ h
theorem zeroR : Try.zeroCells49.size = 68 ∧ (∀ k, k < 64 → Try.zeroCells49[1 + k]? = some (.int .u32 0)) ∧ Try.zeroCells49[65]? = some (.int .i64 0) ∧ Try.zeroCells49[67]? = some (.int .i64 0) := by
  have e : Try.zeroCells49 = ([Value.pointer none] ++ (List.replicate 64 (Value.int .u32 0)) ++ [Value.int .i64 0, Value.int .i64 0, Value.int .i64 0]).toArray := by kernel_rfl
  rw [e]
  refine ⟨by simp, fun k hk => ?_, rfl, rfl⟩
  have e2 : 1 + k - ([Value.pointer none] : List Value).length = k := by show 1 + k - 1 = k; omega
  rw [List.getElem?_toArray, List.getElem?_append_left (by rw [List.length_append, List.length_replicate]; show 1 + k < 1 + 64; omega), List.getElem?_append_right (show 1 ≤ 1 + k by omega), e2, List.getElem?_replicate, if_pos hk]
theorem machT_new {X : Nat} {F : Int} {MA : Array Value} (w : World) (h : MA = (Try.zeroCells49.setIfInBounds 0 (.pointer (some ⟨X, 0, none⟩))).setIfInBounds 66 (.int .i64 F)) : MachT w.heap.size (some ⟨X, 0, none⟩) F (fun _ => 0) 0 0 (w.alloc (.cells MA 49)) := by
  obtain ⟨z0, z1, z2, z3⟩ := zeroR
  subst h
  refine ⟨fun k hk => ?_, ?_, ?_, ?_, fun k hk => ?_, by simp, ?_⟩
  · rw [World.cell?_alloc_new, Array.getElem?_setIfInBounds, if_neg (by omega), Array.getElem?_setIfInBounds, if_neg (by omega)]; exact z1 k hk
  · rw [World.cell?_alloc_new, Array.getElem?_setIfInBounds, if_neg (by omega), Array.getElem?_setIfInBounds, if_neg (by omega)]; exact z2
  · rw [World.cell?_alloc_new, Array.getElem?_setIfInBounds, if_pos rfl, if_pos (by simp [z0])]
  · rw [World.cell?_alloc_new, Array.getElem?_setIfInBounds, if_neg (by omega), Array.getElem?_setIfInBounds, if_neg (by omega)]; exact z3
  · simp
  · rw [World.cell?_alloc_new, Array.getElem?_setIfInBounds, if_neg (by omega), Array.getElem?_setIfInBounds, if_pos rfl, if_pos (by simp [z0])]
theorem ways_run {K : Bk} {l : List Q5} {E : List Int} {F : Int} {s0 s' : LS} {n : Nat} {t : Int} (h : RchL K l E n s0 s') (hw : Ways K l E F 0 l.length s0 s' (0 + n) t) (hb : ((0 + n : Nat) : Int) ≤ F ∨ n = 0) : runL K l E F.toNat s0 = ⟨n, t, s'⟩ := by
  rw [Nat.zero_add] at hw hb
  have hnF : n ≤ F.toNat := by rcases hb with h | h <;> omega
  rcases hw with ⟨rfl, hp, _⟩ | ⟨rfl, hF⟩ | ⟨ht, hp, hs, hk⟩
  · have := run_end h (F.toNat - n) (.inl (by omega))
    rwa [show n + (F.toNat - n) = F.toNat by omega] at this
  · have := run_end h 0 (.inr rfl)
    rwa [show n + 0 = F.toNat by omega] at this
  · have := run_trap h (F.toNat - n - 1) hp (by rw [hs]; exact ht)
    rw [hs] at this
    rwa [show n + (F.toNat - n - 1 + 1) = F.toNat by omega] at this
theorem own_words64 {w : World} {base : Nat} {e : TypeId} {v : Value} {f : Nat → Int} (h : w.ownsRow base e 1 v 64 (cellsF f)) : ∃ g c, v = .slice (some ⟨g, 0, none⟩) 64 c ∧ (∀ k, k < 64 → w.cell? ⟨g, k, none⟩ = some (.int .u32 (f k))) ∧ base ≤ g ∧ g < w.heap.size := by
  have hlt := h.lt
  have h' := h
  obtain ⟨_, ⟨hv, hn⟩ | ⟨g, cap, cur, hv, hg, hh, hc, hcm, _⟩⟩ := h
  · omega
  · refine ⟨g, cap, hv, fun k hk => ?_, hg, (hlt g (by rw [hv]; rfl)).2⟩
    have := h'.cells (g := g) (by rw [hv]; rfl) k _ (cellsF_at f hk)
    rw [add_at, Nat.zero_add] at this
    exact this
set_option maxHeartbeats 1000000 in
theorem rdoes_none (RB X Bs : Nat) (F : Int) (K : Bk) (n2 : Nat) (v0 : Value) (W0 : World) (c0 : Nat) (E : List Int) (a : Option Addr) (cp : Nat) (s0 : LS) (W : World) (hp0 : s0.p = 0) (hdm : DM RB X Bs F K n2 v0 W0 c0 s0.f s0.b ((0 : Nat) : Int) 0 W) :
    Calls Try.prog 22 #[.pointer (some ⟨RB, 0, none⟩), .slice a 0 cp, .int .i64 0, .int .i64 0] W (DoesEnd RB X Bs F K n2 v0 W0 c0 [] E 0 0 s0 0) := by
  have HDM := Lib.hid hdm
  have HP0 := Lib.hid hp0
  clear hdm hp0
  go_enter Try.func22, Try.ntmps22
  go_wp2_with fail
  go_rounds 1
  exact Go.Great.bodyPost_end0 (by rfl) (by rfl) ⟨rfl, 0, s0, 0, .refl _, HDM.out, .inl ⟨rfl, HP0.out, fun c _ => rfl⟩, .inr rfl⟩
theorem check_nil : checkS [] = 0 := by decide
end Go.Proofs.Ytghclbeoabkgcaa
