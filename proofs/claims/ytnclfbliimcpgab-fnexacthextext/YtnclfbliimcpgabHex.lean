/- 'HexText', the model's and the program's, by contracts. -/
import Derived.Test.YtnclfbliimcpgabProg
import Derived.Test.YtnclfbliimcpgabHeld
import Derived.Deep.RegionHeld3
import Derived.Deep.AppendLies
namespace Go.Proofs.Ytnclfbliimcpgab
open Go.RowKit

/-- The digit of base 16. -/
def hexD (n : Nat) : UInt8 := if n < 10 then (48 + n).toUInt8 else (87 + n).toUInt8
def hexB (z : Int) : List UInt8 := [hexD (z.toNat / 16), hexD (z.toNat % 16)]
def hexL (zs : List Int) : List UInt8 := zs.flatMap hexB
def hexS (zs : List Int) : ByteArray := ⟨(hexL zs).toArray⟩
def hxC (zs : List Int) : Int := if zs.length ≤ 400 then 0 else 2
def hxV (zs : List Int) : ByteArray := if zs.length ≤ 400 then hexS zs else ByteArray.empty

theorem length_hexL (zs : List Int) : (hexL zs).length = 2 * zs.length := by
  induction zs with
  | nil => rfl
  | cons z r ih => simp [hexL, hexB] at *; omega

theorem size_hexS (zs : List Int) : (hexS zs).size = 2 * zs.length := by
  show (hexL zs).toArray.size = _
  simp [length_hexL]

theorem hexS_snoc (zs : List Int) (z : Int) : hexS (zs ++ [z]) = hexS zs ++ ⟨#[hexD (z.toNat / 16)]⟩ ++ ⟨#[hexD (z.toNat % 16)]⟩ := by
  unfold hexS hexL
  rw [List.flatMap_append]
  rw [show (#[hexD (z.toNat / 16)] : Array UInt8) = [hexD (z.toNat / 16)].toArray from rfl, show (#[hexD (z.toNat % 16)] : Array UInt8) = [hexD (z.toNat % 16)].toArray from rfl, ByteArray.mk_append_mk, ByteArray.mk_append_mk]
  simp [hexB]

theorem hex_slice (w : World) : ∀ h : Nat, h < 16 → (Instr.slice 9 (.string ⟨#[48, 49, 50, 51, 52, 53, 54, 55, 56, 57, 97, 98, 99, 100, 101, 102]⟩) (some (.int .u8 (h : Int))) (some (.int .u8 ((h : Int) + 1))) none).run Try.prog w = .ok (.string ⟨#[hexD h]⟩) w
  | 0, _ => by kernel_rfl
  | 1, _ => by kernel_rfl
  | 2, _ => by kernel_rfl
  | 3, _ => by kernel_rfl
  | 4, _ => by kernel_rfl
  | 5, _ => by kernel_rfl
  | 6, _ => by kernel_rfl
  | 7, _ => by kernel_rfl
  | 8, _ => by kernel_rfl
  | 9, _ => by kernel_rfl
  | 10, _ => by kernel_rfl
  | 11, _ => by kernel_rfl
  | 12, _ => by kernel_rfl
  | 13, _ => by kernel_rfl
  | 14, _ => by kernel_rfl
  | 15, _ => by kernel_rfl
  | n + 16, h => absurd h (by omega)

theorem hex_slice' (w : World) (h : Int) (h0 : 0 ≤ h) (h1 : h < 16) : (Instr.slice 9 (.string ⟨#[48, 49, 50, 51, 52, 53, 54, 55, 56, 57, 97, 98, 99, 100, 101, 102]⟩) (some (.int .u8 h)) (some (.int .u8 (h + 1))) none).run Try.prog w = .ok (.string ⟨#[hexD h.toNat]⟩) w := by
  obtain ⟨k, rfl⟩ := Int.eq_ofNat_of_zero_le h0
  exact hex_slice w k (by omega)

set_option maxHeartbeats 400000 in
theorem specHexText_ok (a : Option Addr) (n ca : Nat) (zs : List Int) (w : World) (ha : Rd .u8 w a zs) (hb : Bytes zs) (hn : zs.length = n) (hx : n ≤ 281474976710656) :
    Calls Try.prog 30 #[.slice a n ca] w fun e w' => e = .returned (.agg #[.int .i64 (hxC zs), .string (hxV zs)]) ∧ Below w.heap.size w w' := by
  by_cases hbig : n ≤ 400
  · have e1 := Hid.mk (show hxC zs = 0 from if_pos (by omega))
    have e2 := Hid.mk (show hxV zs = hexS zs from if_pos (by omega))
    go_enter Try.func30, Try.ntmps30
    go_wp2
    go_loopw [3, 4] (fun t i wr => ∃ k q : Nat, k ≤ n ∧ i = .int .i64 k ∧ t = .string (hexS (zs.take k)) ∧ wr = (w.alloc (.cells #[.int .i64 0, .string ByteArray.empty] 48)).drewN q) (fun _ i _ => n - (intOf i).toNat)
    case atStart =>
      exact ⟨0, 0, Nat.zero_le _, rfl, rfl, rfl⟩
    case round =>
      obtain ⟨k, q, hk, rfl, rfl, rfl⟩ := hrel
      by_cases hlt : k < n
      · rcases ha with ha | ⟨b1, o1, rfl, hc⟩
        · simp [ha] at hn; omega
        have h1 := hc k (by omega)
        have hc1 := (belowA w (.cells #[.int .i64 0, .string ByteArray.empty] 48)).cell (World.block_lt_of_cell? (a := ⟨b1, o1 + k, none⟩) w h1)
        rw [h1] at hc1
        obtain ⟨hz1, hz2⟩ := hb.at k
        have hT := Hid.mk (take_snoc zs k (by omega))
        generalize zs.getD k 0 = z at *
        have hB := Hid.mk (show hexB z = [hexD (z.toNat / 16), hexD (z.toNat % 16)] from rfl)
        obtain ⟨z, rfl⟩ := Int.eq_ofNat_of_zero_le hz1
        have s1 := fun wx => hex_slice' wx ((z : Int) / 16) (by omega) (by omega)
        have s2 := fun wx => hex_slice' wx ((z : Int) % 16) (by omega) (by omega)
        have r1 : IntKind.u8.wrap ((z : Int) / 16 + 1) = (z : Int) / 16 + 1 := by rw [IntKind.wrap_u8]; omega
        have r2 : IntKind.u8.wrap ((z : Int) % 16 + 1) = (z : Int) % 16 + 1 := by rw [IntKind.wrap_u8]; omega
        have hk1 : (k : Int) < (n : Int) := by omega
        have hsz := size_hexS (zs.take k)
        rw [List.length_take] at hsz
        have hz0 : (hexS (zs.take k)).size ≤ 800 := by omega
        have hEq := Hid.mk (hexS_snoc (zs.take k) z)
        clear hc h1 hsz
        generalize hexS (zs.take k) = S at *
        go_wp2
        go_quiet (fail)
        go_wp2
        go_roundw
        case rel => exact ⟨k + 1, _, by omega, by go_num, by rw [hT.out, hEq.out, Int.toNat_natCast], rfl⟩
        case measure => simp [intOf]; omega
      · have hkn : k = n := by omega
        subst hkn
        have e3 := Hid.mk (show hexS (zs.take k) = hexS zs by rw [List.take_of_length_le (by omega)])
        generalize hexS (zs.take k) = S at *
        go_wp2
        refine bodyPost_ret (v := .agg #[.int .i64 0, .string S]) (by simp [results, Try.results30, go_sem]) rfl ⟨by rw [e1.out, e2.out, e3.out], ?_⟩
        exact ((belowN (belowA _ _) _).setCell (by simp) _).setCell (by simp) _
  · have e1 := Hid.mk (show hxC zs = 2 from if_neg (by omega))
    have e2 := Hid.mk (show hxV zs = ByteArray.empty from if_neg (by omega))
    have hgt : (400 : Int) < (n : Int) := by omega
    go_enter Try.func30, Try.ntmps30
    go_wp2
    refine bodyPost_ret (v := .agg #[.int .i64 2, .string ByteArray.empty]) (by simp [results, Try.results30, go_sem]; rfl) rfl ⟨by rw [e1.out, e2.out], belowA _ _⟩

theorem hex_at (w : World) : ∀ h : Nat, h < 16 → (Instr.index 9 (.string ⟨#[48, 49, 50, 51, 52, 53, 54, 55, 56, 57, 97, 98, 99, 100, 101, 102]⟩) (.int .u8 (h : Int))).run Try.prog w = .ok (.int .u8 (hexD h).toNat) w
  | 0, _ => by kernel_rfl
  | 1, _ => by kernel_rfl
  | 2, _ => by kernel_rfl
  | 3, _ => by kernel_rfl
  | 4, _ => by kernel_rfl
  | 5, _ => by kernel_rfl
  | 6, _ => by kernel_rfl
  | 7, _ => by kernel_rfl
  | 8, _ => by kernel_rfl
  | 9, _ => by kernel_rfl
  | 10, _ => by kernel_rfl
  | 11, _ => by kernel_rfl
  | 12, _ => by kernel_rfl
  | 13, _ => by kernel_rfl
  | 14, _ => by kernel_rfl
  | 15, _ => by kernel_rfl
  | n + 16, h => absurd h (by omega)

theorem hex_at' (w : World) (h : Int) (h0 : 0 ≤ h) (h1 : h < 16) : (Instr.index 9 (.string ⟨#[48, 49, 50, 51, 52, 53, 54, 55, 56, 57, 97, 98, 99, 100, 101, 102]⟩) (.int .u8 h)).run Try.prog w = .ok (.int .u8 (hexD h.toNat).toNat) w := by
  obtain ⟨k, rfl⟩ := Int.eq_ofNat_of_zero_le h0
  exact hex_at w k (by omega)

/-- The digits as numbers. -/
def hexN (zs : List Int) : List Int := (hexL zs).map fun c => (c.toNat : Int)

theorem hexN_snoc (zs : List Int) (z : Int) (h : 0 ≤ z) : hexN (zs ++ [z]) = hexN zs ++ [((hexD (z / 16).toNat).toNat : Int), ((hexD (z % 16).toNat).toNat : Int)] := by
  obtain ⟨k, rfl⟩ := Int.eq_ofNat_of_zero_le h
  have e1 : ((k : Int) / 16).toNat = k / 16 := by omega
  have e2 : ((k : Int) % 16).toNat = k % 16 := by omega
  rw [e1, e2]
  simp [hexN, hexL, hexB]

theorem length_hexN (zs : List Int) : (hexN zs).length = 2 * zs.length := by simp [hexN, length_hexL]

theorem strOf_hexN (zs : List Int) : strOfNums (hexN zs) = hexS zs := by
  unfold strOfNums hexN hexS
  congr 2
  rw [List.map_map]
  conv => rhs; rw [← List.map_id (hexL zs)]
  apply List.map_congr_left
  intro c _
  simp

theorem and15 (z : Int) (h : 0 ≤ z) (h2 : z < 256) : bits .and .u8 z 15 = z % 16 := by
  rw [u8_and z 15 h h2 (by omega) (by omega)]
  obtain ⟨k, rfl⟩ := Int.eq_ofNat_of_zero_le h
  rw [Int.toNat_natCast, show (15 : Int).toNat = 2 ^ 4 - 1 from rfl, Nat.and_two_pow_sub_one_eq_mod]
  omega

theorem convert_own {w : World} {base : Nat} {c : Option Addr} {n d : Nat} {ns : List Int} (h : w.ownsRow base 5 1 (.slice c n d) n (ns.map (Value.int .u8))) (hl : ns.length = n) :
    (convert 22 9 (.slice c n d)).run Try.prog w = .ok (.string (strOfNums ns)) w := by
  rcases h.2 with ⟨hv, h0⟩ | ⟨g, cap, cur, hv, _⟩
  · simp only [Value.slice.injEq] at hv
    obtain ⟨rfl, rfl, rfl⟩ := hv
    have : ns = [] := List.eq_nil_of_length_eq_zero (by omega)
    subst this
    exact run_convert_bytes_nil w 22 5 Try.underlying22 Try.underlying5 0 0 9 Try.underlying9
  · simp only [Value.slice.injEq, true_and] at hv
    obtain ⟨rfl, rfl⟩ := hv
    exact run_convert_bytes_arg w 22 5 Try.underlying22 Try.underlying5 g 0 n d ns hl (fun i hi => by
      rw [Nat.zero_add, World.ownsRow.cellAt h i (by omega)]
      simp [List.getD, show i < ns.length by omega]) 9 Try.underlying9

set_option maxHeartbeats 1000000 in
theorem implHexText_ok (a : Option Addr) (n ca : Nat) (zs : List Int) (w : World) (ha : Rd .u8 w a zs) (hb : Bytes zs) (hn : zs.length = n) (hx : n ≤ 281474976710656) :
    Calls Try.prog 31 #[.slice a n ca] w fun e w' => e = .returned (.agg #[.int .i64 (hxC zs), .string (hxV zs)]) ∧ Below w.heap.size w w' := by
  by_cases hbig : n ≤ 400
  · have e1 := Hid.mk (show hxC zs = 0 from if_pos (by omega))
    have e2 := Hid.mk (show hxV zs = hexS zs from if_pos (by omega))
    obtain ⟨i0, hi, g0, g1, g2⟩ := info_parts Try.info_u8
    have hle : (n : Int) ≤ 400 := by omega
    go_enter Try.func31, Try.ntmps31
    go_wp2_with (at_make; refine wpList_make_own _ rfl _ _ 22 rfl (w.heap.size + 1) 5 i0 (.int .u8 0) 1 Try.underlying22 hi g0 g1 .i64 .i64 _ (2 * n) rfl rfl (by omega) (by rw [g2]; omega) (by unfold maxLen; omega) (by simp) ?_)
    intro w1 hown hgrow
    have hbel : Below (w.heap.size + 1) (w.alloc (.cells #[.int .i64 0, .string ByteArray.empty] 48)) w1 := (Below.refl _ _).grown hgrow (by simp) (by intro k hk; cases hk)
    clear hgrow
    go_wp2
    go_loopw [3, 16] (fun v i wr => ∃ (k d : Nat) (c : Option Addr), k ≤ n ∧ i = .int .i64 k ∧ v = .slice c (2 * k) d ∧ wr.ownsRow (w.heap.size + 1) 5 1 v (2 * k) ((hexN (zs.take k)).map (Value.int .u8)) ∧ Below (w.heap.size + 1) (w.alloc (.cells #[.int .i64 0, .string ByteArray.empty] 48)) wr) (fun _ i _ => n - (intOf i).toNat)
    case atStart => exact ⟨0, _, _, Nat.zero_le _, rfl, rfl, by simpa [hexN, hexL] using hown, hbel⟩
    clear hown hbel
    case round =>
      obtain ⟨k, d, c, hk, rfl, rfl, hown, hb1⟩ := hrel
      by_cases hlt : k < n
      · rcases ha with ha | ⟨b1, o1, rfl, hc⟩
        · simp [ha] at hn; omega
        have h0 := hc k (by omega)
        have hlt1 : b1 < w.heap.size := World.block_lt_of_cell? (a := ⟨b1, o1 + k, none⟩) w h0
        have h1 : wr.cell? ⟨b1, o1 + k, none⟩ = some (.int .u8 (zs.getD k 0)) := by
          rw [hb1.cell (p := ⟨b1, o1 + k, none⟩) (by show b1 < _; omega), (belowA w _).cell (p := ⟨b1, o1 + k, none⟩) hlt1]
          exact h0
        obtain ⟨hz1, hz2⟩ := hb.at k
        have hT := Hid.mk (take_snoc zs k (by omega))
        generalize zs.getD k 0 = z at *
        have i1 := fun wx => hex_at' wx (z / 16) (by omega) (by omega)
        have i2 := fun wx => hex_at' wx (z % 16) (by omega) (by omega)
        have r1 : bits .and .u8 z 15 = z % 16 := and15 z hz1 hz2
        have hk1 : (k : Int) < (n : Int) := by omega
        clear hc h0
        go_wp2
        go_region_held3 (fun _ => True) (trivial) ((refine step_append_lies _ (by rfl) (.tmp 20) (.tmp 27) 22 (by rfl) (w.heap.size + 1) 5 i0 (.int .u8 0) 1 1 Try.underlying22 hi g0 g1 g2 rfl (by decide) (.slice c (2 * k) d) (2 * k) ((hexN (zs.take k)).map (Value.int .u8)) (by simp [Act.eval]) (by exact hown.alloc _) ⟨wr.heap.size, 0, none⟩ 2 2 [.int .u8 (hexD (z / 16).toNat).toNat, .int .u8 (hexD (z % 16).toNat).toNat] (by simp [Act.eval]) rfl (by exact cell_two_new _ _ _ _) (by intro u hu; simp at hu; rcases hu with rfl | rfl <;> rfl) (by omega) (by unfold maxLen; omega) (by omega) (by have := hb1.size; simp at this ⊢; omega) (wr.heap.size + 1) (by simp) ?_; intro g cap w2 hown2 hgrow2 hat2 hlt2))
        all_goals
          have hown3 : w2.ownsRow (w.heap.size + 1) 5 1 (.slice (some ⟨g, 0, none⟩) (2 * k + 2) cap) (2 * (k + 1)) ((hexN (zs.take (k + 1))).map (Value.int .u8)) := by
            rw [hT.out, hexN_snoc _ z hz1, show 2 * (k + 1) = 2 * k + 2 from rfl]
            simpa using hown2
          have hb3 : Below (w.heap.size + 1) (w.alloc (.cells #[.int .i64 0, .string ByteArray.empty] 48)) w2 :=
            Below.grown ((hb1.alloc (by have := hb1.size; simpa using this) _).drew) hgrow2 (by have := hb1.size; simp at this ⊢; omega) fun i hi => (hown.lt i hi).1
          have HO := Hid.mk hown3
          clear hown3 hown2 hgrow2 hown hat2
          go_wp2
          go_roundw
          case rel => exact ⟨k + 1, cap, some ⟨g, 0, none⟩, by omega, by go_num, rfl, HO.out, hb3⟩
          case measure => simp [intOf]; omega
      · have hkn : k = n := by omega
        subst hkn
        rw [List.take_of_length_le (by omega)] at hown
        have hcv := convert_own hown (by rw [length_hexN, hn])
        rw [strOf_hexN] at hcv
        obtain ⟨hc1, hf1⟩ := bcell (W := w.alloc (.cells #[.int .i64 0, .string ByteArray.empty] 48)) (w1 := wr) (by simpa using hb1)
        have hz1 : w.heap.size + 1 ≤ wr.heap.size := by have := hb1.size; simpa using this
        clear hown
        go_wp2
        refine bodyPost_ret (v := .agg #[.int .i64 0, .string (hexS zs)]) (by simp [results, Try.results31, go_sem, hc1]) rfl ⟨by rw [e1.out, e2.out], ?_⟩
        exact (((belowA _ _).trans (hb1.mono (by simp))).setCell (by simp) _).setCell (by simp) _
  · have e1 := Hid.mk (show hxC zs = 2 from if_neg (by omega))
    have e2 := Hid.mk (show hxV zs = ByteArray.empty from if_neg (by omega))
    have hgt : (400 : Int) < (n : Int) := by omega
    go_enter Try.func31, Try.ntmps31
    go_wp2
    refine bodyPost_ret (v := .agg #[.int .i64 2, .string ByteArray.empty]) (by simp [results, Try.results31, go_sem]; rfl) rfl ⟨by rw [e1.out, e2.out], belowA _ _⟩

end Go.Proofs.Ytnclfbliimcpgab
