/- The document's Path over a row of events. -/
import Derived.Test.YtidpaijnnkainaaDoorExK
namespace Go.Proofs.YtidpaijnnkainaaDoor
open Go Go.RowKit Go.Shelf Pl
set_option linter.unusedVariables false
attribute [local irreducible] mixN
theorem hash_take (l : List MEv) (m : Nat) (h : m < l.length) : hashE (l.take (m + 1)) = evH (hashE (l.take m)) (evD l m) 4 := by
  have e : l.take (m + 1) = l.take m ++ [evD l m] := by
    rw [List.take_add_one, List.getElem?_eq_getElem h]
    unfold evD
    rw [List.getD_eq_getElem?_getD, List.getElem?_eq_getElem h]
    rfl
  rw [e, hashE_snoc]
theorem mix_at (H X : Nat) (hH : H < 4294967296) (hX : X < 4294967296) (W W' : World) (hl : LikeG W W') : Calls Tryd.prog 32 #[.int .u32 (H : Nat), .int .u32 (X : Nat)] W' fun e w' => e = .returned (.int .u32 (mixN H X : Nat)) ∧ LikeG W' w' :=
  (mix_any H X hH hX W').mono fun e w' ⟨h1, h2⟩ => ⟨h1, h2 ▸ LikeG.refl _⟩
set_option maxRecDepth 100000 in
set_option maxHeartbeats 2000000 in
theorem rpath_any (a : Option Addr) (c : Nat) (l : List MEv) (W : World) (h1 : EvRow W a l) (hev : ∀ e ∈ l, e.p < 4294967296 ∧ e.a < 4294967296) (hn : l.length ≤ 1000) :
    Calls Tryd.prog 17 #[.slice a l.length c] W fun e w' => e = .returned (.int .u32 (hashE l : Nat)) ∧ Below W.heap.size W w' := by
  have H1 := Lib.hid h1
  have EV := Lib.hid hev
  have mix := mixed_ok
  clear h1 hev
  generalize hN : l.length = n at *
  go_enter Tryd.func17, Tryd.ntmps17
  go_wp2_with fail
  go_loopw [3, 4] (fun u i wr => ∃ m : Nat, m ≤ n ∧ i = .int .i64 m ∧ u = .int .u32 (hashE (l.take m) : Nat) ∧ Below W.heap.size W wr) (fun _ i _ => n - (intOf i).toNat)
  case atStart => exact ⟨0, by omega, rfl, rfl, .refl _ _⟩
  case round =>
    obtain ⟨m, hm, rfl, rfl, hb⟩ := hrel
    have HB := Lib.hid hb
    clear hb
    by_cases hlt : m < n
    · have r1 := H1.out.below HB.out
      rcases r1 with r | ⟨g, rfl, hg, hc⟩
      · subst r; simp at hN; omega
      have HT := Lib.hid (hash_take l m (by omega))
      have hmem := EV.out (evD l m) (by unfold evD; rw [List.getD_eq_getElem?_getD, List.getElem?_eq_getElem (by omega)]; exact List.getElem_mem _)
      have hh := hashE_lt (l.take m)
      obtain ⟨p0, p1, p2, p3, p4⟩ := hc m (by omega)
      clear hc
      generalize hG : hashE (l.take m) = G at *
      generalize evD l m = e at *
      have ek : IntKind.u32.wrap e.k = ((toU e.k : Nat) : Int) := by rw [IntKind.wrap_u32]; exact (Int.toNat_of_nonneg (by omega)).symm
      have es : IntKind.u32.wrap e.s = ((toU e.s : Nat) : Int) := by rw [IntKind.wrap_u32]; exact (Int.toNat_of_nonneg (by omega)).symm
      have lk : toU e.k < 4294967296 := by unfold toU; omega
      have ls : toU e.s < 4294967296 := by unfold toU; omega
      have M1 := Lib.hid (fun W' => mix_at G e.p hh hmem.1 W' W' (LikeG.refl _))
      have M2 := Lib.hid (fun W' => mix_at (mixN G e.p) (toU e.k) (mixN_lt _ _) lk W' W' (LikeG.refl _))
      have M3 := Lib.hid (fun W' => mix_at (mixN (mixN G e.p) (toU e.k)) e.a (mixN_lt _ _) hmem.2 W' W' (LikeG.refl _))
      have M4 := Lib.hid (fun W' => mix_at (mixN (mixN (mixN G e.p) (toU e.k)) e.a) (toU e.s) (mixN_lt _ _) ls W' W' (LikeG.refl _))
      have hT4 : evH G e 4 = mixN (mixN (mixN (mixN G e.p) (toU e.k)) e.a) (toU e.s) := rfl
      rw [hT4] at HT
      have L1 := LikeG.refl wr
      have HBB := HB.out
      clear hT4 p1
      go_upto_region 5 with (fail)
      go_region_held3 (fun w' => (w'.cell? ⟨g, m * 5, none⟩ = some (.int .u32 (e.p : Nat)) ∧ w'.cell? ⟨g, m * 5 + 2, none⟩ = some (.int .i64 e.k) ∧ w'.cell? ⟨g, m * 5 + 3, none⟩ = some (.int .u32 (e.a : Nat)) ∧ w'.cell? ⟨g, m * 5 + 4, none⟩ = some (.int .i64 e.s)) ∧ LikeG wr w')
        (first | (with_reducible assumption) | (with_reducible exact ⟨⟨p0, p2, p3, p4⟩, L1⟩) | (exact ⟨⟨p0, p2, p3, p4⟩, like_drew L1⟩) | (obtain ⟨⟨s0, s2, s3, s4⟩, s5⟩ := ‹_ ∧ LikeG wr _›; first | (with_reducible exact ⟨⟨s0, s2, s3, s4⟩, s5⟩) | (exact ⟨⟨s0, s2, s3, s4⟩, like_drew s5⟩) | (with_reducible exact ⟨⟨(hlk.cell _).trans s0, (hlk.cell _).trans s2, (hlk.cell _).trans s3, (hlk.cell _).trans s4⟩, s5.trans hlk⟩) | (exact ⟨⟨(hlk.cell _).trans s0, (hlk.cell _).trans s2, (hlk.cell _).trans s3, (hlk.cell _).trans s4⟩, (like_drew s5).trans hlk⟩)))
        (first
        | (go_at_call 32; (with_reducible refine (M1.out _).mono ?_); rintro e8 w8 ⟨rfl, hlk⟩)
        | (go_at_call 32; (with_reducible refine (M2.out _).mono ?_); rintro e8 w8 ⟨rfl, hlk⟩)
        | (go_at_call 32; (with_reducible refine (M3.out _).mono ?_); rintro e8 w8 ⟨rfl, hlk⟩)
        | (go_at_call 32; (with_reducible refine (M4.out _).mono ?_); rintro e8 w8 ⟨rfl, hlk⟩))
      obtain ⟨_, hlk⟩ := ‹_ ∧ LikeG wr _›
      have B8 := hlk.2 _ _ HBB
      clear p0 p2 p3 p4 L1 HBB
      go_wp2_with fail
      go_roundw
      case rel => exact ⟨m + 1, by omega, by go_num, by rw [HT.out], B8⟩
      case measure => show n - ((m : Int) + 1).toNat < n - (m : Int).toNat; omega
    · obtain rfl : m = n := by omega
      rw [← hN, List.take_length]
      go_wp2_with fail
      go_ret
      exact ⟨rfl, HB.out⟩
end Go.Proofs.YtidpaijnnkainaaDoor
