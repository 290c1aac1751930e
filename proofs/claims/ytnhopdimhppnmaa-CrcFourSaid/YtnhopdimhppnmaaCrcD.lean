/- The document's answer for layer 8, bit by bit; slices of bytes that come in. -/
import Derived.Test.YtnhopdimhppnmaaCrcC
import Derived.WideShapes
import Derived.ChangeSlices
import Derived.OpenShut
namespace Go.Proofs.Ytnhopdimhppnmaa
open Go Go.RowKit Go.ChangeShapes Go.WideShapes Pl
set_option linter.unusedVariables false

/-- a slice of bytes that came in -/
theorem bytes_in {H : Type} {enc : TypeId × Value → H} {P : Program} {w : World} {r : Reach} {b base : Nat} {spare : Nat → Bool} {held : Bool} {t e : TypeId} {v : Value} {d : DataW H} {p : List MemPlace}
    (ht : P.underlying t = some (.slice e)) (he : P.underlying e = some (.int .u8)) (hc : P.cellsOf e = 1)
    (hv : Value.okWide P w r b t v) (h : DataW.Trod enc P w base spare held t v d p) :
    ∃ (a : Option Addr) (c : Nat) (l : List Nat), v = .slice a l.length c ∧ SliceIn w a l c := by
  obtain ⟨a, len, cap, rfl⟩ := okWide_slice ht hv
  obtain ⟨fuel, hf⟩ := h
  rcases open_ints ht he hc hf with ⟨hcs, _⟩ | ⟨x, n, c, zs, hcs, _, hl, hm, hz, _, hcell, hwz⟩
  · simp [Value.cells] at hcs
    obtain ⟨rfl, rfl, rfl⟩ := hcs
    exact ⟨none, 0, [], rfl, by simp, by simp, by omega, Or.inl ⟨rfl, rfl, rfl⟩⟩
  · simp [Value.cells] at hcs
    obtain ⟨rfl, rfl, rfl⟩ := hcs
    have hlen : len ≤ zs.length := by rw [hz]; split <;> omega
    have l1 : ((zs.take len).map Int.toNat).length = len := by simp; omega
    have pos : ∀ z ∈ zs, 0 ≤ z ∧ z < 256 := by
      intro z hz
      have : 0 ≤ z ∧ z ≤ 255 := by simpa [Lit.wf, IntKind.min, IntKind.max, IntKind.signed, IntKind.bits] using hwz z hz
      omega
    refine ⟨some x, cap, (zs.take len).map Int.toNat, by rw [l1], ?_, by rw [l1]; exact hl, by simpa [maxLen] using hm, ?_⟩
    · intro n hn
      simp only [List.mem_map] at hn
      obtain ⟨z, hz, rfl⟩ := hn
      have := pos z (List.mem_of_mem_take hz)
      omega
    · by_cases h0 : len = 0
      · subst h0
        exact Or.inr (Or.inl ⟨⟨x, rfl⟩, by simp⟩)
      · obtain ⟨bl, off, spot⟩ := x
        have c0 := hcell 0 (by omega)
        have hspot : spot = none := by simpa [Addr.add] using World.cell?_spot c0
        subst hspot
        have hb := block_lt_of_cell c0
        refine Or.inr (Or.inr ⟨bl, off, rfl, by simpa [Addr.add] using hb, ?_⟩)
        intro k hk
        rw [l1] at hk
        have ck := hcell k (by omega)
        have e1 : (⟨bl, off, none⟩ : Addr).add k = ⟨bl, off + k, none⟩ := by unfold Addr.add; split <;> simp_all
        rw [e1] at ck
        rw [ck]
        have hm : zs.getD k 0 ∈ zs := by
          simp only [List.getD, List.getElem?_eq_getElem (show k < zs.length by omega), Option.getD_some]
          exact List.getElem_mem _
        have hp := pos _ hm
        have e2 : ((zs.take len).map Int.toNat).getD k 0 = (zs.getD k 0).toNat := by
          simp [List.getD, hk, List.getElem?_eq_getElem (show k < zs.length by omega)]
        rw [e2]
        congr 2
        omega

theorem ref08_turned (n : Nat) (w : World) (h : n < 4294967296) : Calls Try.prog 46 #[.int .u32 (n : Int)] w fun e w' => e = .returned (.int .u32 (4294967295 - n : Nat)) ∧ w = w' := by
  have e0 : (4294967295 - (n : Int)) = ((4294967295 - n : Nat) : Int) := by omega
  go_enter Try.func46, Try.ntmps46
  go_wp2_with fail
  go_ret
  exact ⟨ret_u32 (by omega), rfl⟩

theorem xor_bit (x y p : Nat) : 2 * ((x ^^^ y) / 2 ^ (p + 1)) + (x / 2 ^ p + y / 2 ^ p) % 2 = (x ^^^ y) / 2 ^ p := by
  have h1 : (x ^^^ y) / 2 ^ p = (x / 2 ^ p) ^^^ (y / 2 ^ p) := by
    simp only [← Nat.shiftRight_eq_div_pow, Nat.shiftRight_xor_distrib]
  have h2 : (x ^^^ y) / 2 ^ (p + 1) = (x ^^^ y) / 2 ^ p / 2 := by rw [Nat.pow_succ, Nat.div_div_eq_div_mul]
  have h3 := xor_mod2 (x / 2 ^ p) (y / 2 ^ p)
  rw [← h1] at h3
  rw [h2]
  omega

theorem xor_bit_int (x y p : Nat) (hm : x ^^^ y < 4294967296) : 2 * (((x ^^^ y : Nat) : Int) / 2 ^ (p + 1)) % 4294967296 + ((x : Int) / 2 ^ p + (y : Int) / 2 ^ p) % 2 = ((x ^^^ y) / 2 ^ p : Nat) := by
  have h := xor_bit x y p
  have h1 : (x ^^^ y) / 2 ^ p ≤ x ^^^ y := Nat.div_le_self _ _
  have c : ∀ (a k : Nat), ((a : Int) / 2 ^ k) = ((a / 2 ^ k : Nat) : Int) := fun a k => by simp
  rw [c, c, c]
  omega

set_option maxHeartbeats 400000 in
theorem ref08_xor (x y : Nat) (w : World) (hx : x < 4294967296) (hy : y < 4294967296) : Calls Try.prog 47 #[.int .u32 (x : Int), .int .u32 (y : Int)] w fun e w' => e = .returned (.int .u32 (x ^^^ y : Nat)) ∧ w = w' := by
  have hm := xor_lt hx hy
  have XB := Lib.hid (xor_bit x y)
  go_enter Try.func47, Try.ntmps47
  go_wp2
  go_loop [5, 6] (fun v i => ∃ j : Nat, j ≤ 32 ∧ i = .int .i64 ((j : Int) - 1) ∧ v = .int .u32 ((x ^^^ y) / 2 ^ j : Nat)) (fun _ i => (intOf i + 1).toNat)
  case atStart => exact ⟨32, by omega, rfl, by simp; omega⟩
  case round =>
    obtain ⟨j, hj, rfl, rfl⟩ := hrel
    obtain rfl | ⟨p, rfl⟩ : j = 0 ∨ ∃ p, j = p + 1 := by cases j; exact Or.inl rfl; exact Or.inr ⟨_, rfl⟩
    · go_wp2
      go_ret
      exact ⟨ret_u32 (by simp), rfl⟩
    · have e0 : ((p + 1 : Nat) : Int) - 1 = (p : Int) := by omega
      rw [e0]
      go_wp2
      refine ⟨⟨p, by omega, rfl, ?_⟩, by simp [intOf]⟩
      rw [xor_bit_int x y p hm]

set_option maxHeartbeats 1000000 in
theorem ref08_more (s : Nat) (a : Option Addr) (c : Nat) (l : List Nat) (w : World) (hs : s < 4294967296) (hl : BytesAt w a l) :
    Calls Try.prog 17 #[.int .u32 (s : Int), .slice a l.length c] w fun e w' => e = .returned (.int .u32 (crcS s l : Nat)) ∧ w = w' := by
  obtain ⟨h256, hmax, hcell⟩ := hl
  have FL := Lib.hid (fun k => fold_lt (l.take k) (4294967295 - s) (by omega) (fun x hx => h256 x (List.mem_of_mem_take hx)))
  have H256 := Lib.hid h256
  clear h256
  rcases hcell with rfl | ⟨b, off, rfl, hb, hc⟩
  · have E0 := Lib.hid (show crcS s [] = 4294967295 - (4294967295 - s) from rfl)
    go_enter Try.func17, Try.ntmps17
    go_wp2_with fail
    refine (ref08_turned s w hs).mono ?_
    rintro e w1 ⟨rfl, rfl⟩
    go_wp2_with fail
    go_rounds 1
    go_ret
    exact ⟨ret_u32 (by rw [E0.out]; omega), rfl⟩
  · have HC := Lib.hid hc
    clear hc
    go_enter Try.func17, Try.ntmps17
    go_wp2_with fail
    refine (ref08_turned s w hs).mono ?_
    rintro e w1 ⟨rfl, rfl⟩
    go_wp2_with fail
    go_loop [5, 6] (fun v i => ∃ k : Nat, k ≤ l.length ∧ i = .int .i64 k ∧ v = .int .u32 ((l.take k).foldl byteS (4294967295 - s) : Nat)) (fun _ i => l.length - (intOf i).toNat)
    case atStart => exact ⟨0, Nat.zero_le _, rfl, rfl⟩
    case round =>
      obtain ⟨k, hk, rfl, rfl⟩ := hrel
      by_cases hlt : k < l.length
      · have cx := HC.out k hlt
        have fl := FL.out k
        have TN := Lib.hid (take_next hlt)
        have hx : l.getD k 0 < 256 := by
          apply H256.out
          simp [List.getD, hlt]
        generalize l.getD k 0 = x at *
        have FO := Lib.hid (show (l.take (k + 1)).foldl byteS (4294967295 - s) = byteS ((l.take k).foldl byteS (4294967295 - s)) x by rw [TN.out, List.foldl_append]; rfl)
        generalize (l.take k).foldl byteS (4294967295 - s) = y at *
        have BS := Lib.hid (show byteS y x = stN 8 (y ^^^ x) from rfl)
        have y1 := xor_lt fl (show x < 4294967296 by omega)
        have XX := Lib.hid (ref08_xor y x w fl (by omega))
        go_wp2_with fail
        refine XX.out.mono ?_
        rintro e w1 ⟨rfl, rfl⟩
        generalize y ^^^ x = z at *
        go_wp2_with fail
        go_loop [5, 7] (fun v i => ∃ j : Nat, j ≤ 8 ∧ i = .int .i64 j ∧ v = .int .u32 (stN j z : Nat)) (fun _ i => 8 - (intOf i).toNat)
        case atStart => exact ⟨0, by omega, rfl, rfl⟩
        case round =>
          obtain ⟨j, hj, rfl, rfl⟩ := hrel
          by_cases hl : j < 8
          · have hb := stN_lt z y1 j
            have NX := Lib.hid (show stN (j + 1) z = st (stN j z) from rfl)
            generalize stN j z = q at *
            obtain hp | hp : q % 2 = 0 ∨ q % 2 = 1 := by omega
            · have hp2 : ((q : Int) % 2 == 1) = false := by simp; omega
              have HP := Lib.hid hp
              clear hp
              go_wp2_with fail
              go_round
              case measure => simp [intOf]; omega
              case rel =>
                refine ⟨j + 1, by omega, by go_num, ?_⟩
                congr 1
                rw [NX.out, st, if_neg (by rw [HP.out]; omega)]
                omega
            · have hp2 : ((q : Int) % 2 == 1) = true := by simp; omega
              have HP := Lib.hid hp
              clear hp
              have X2 := Lib.hid (ref08_xor (q / 2) 3988292384 w (by omega) (by omega))
              go_wp2_with fail
              refine X2.out.mono ?_
              rintro e w1 ⟨rfl, rfl⟩
              go_wp2_with fail
              go_round
              case measure => simp [intOf]; omega
              case rel =>
                refine ⟨j + 1, by omega, by go_num, ?_⟩
                congr 1
                rw [NX.out, st, if_pos HP.out]
          · obtain rfl : j = 8 := by omega
            go_wp2_with fail
            go_round
            case measure => simp [intOf]; omega
            case rel => exact ⟨k + 1, by omega, by go_num, by rw [FO.out, BS.out]⟩
      · obtain rfl : k = l.length := by omega
        have fl := FL.out l.length
        rw [List.take_length] at fl ⊢
        have T2 := Lib.hid (ref08_turned _ w fl)
        go_wp2_with fail
        refine T2.out.mono ?_
        rintro e w1 ⟨rfl, rfl⟩
        go_wp2_with fail
        go_ret
        exact ⟨rfl, rfl⟩
end Go.Proofs.Ytnhopdimhppnmaa
