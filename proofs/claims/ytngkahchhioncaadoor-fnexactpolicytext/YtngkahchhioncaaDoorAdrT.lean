/- 'AddressText', the model's and the program's, by contracts. -/
import Derived.Test.YtngkahchhioncaaDoorAtT
namespace Go.Proofs.YtngkahchhioncaaDoor
open Go.RowKit

/-- The first k of the bytes in decimal, dots between them. -/
def adr (zs : List Int) : Nat → List UInt8
  | 0 => []
  | k + 1 => (if k = 0 then [] else adr zs k ++ [46]) ++ Lib.decDigits (zs.getD k 0).toNat

theorem adr_one (zs : List Int) : adr zs 1 = Lib.decDigits (zs.getD 0 0).toNat := by simp [adr]

theorem adr_succ (zs : List Int) (k : Nat) (h : 1 ≤ k) : adr zs (k + 1) = adr zs k ++ [46] ++ Lib.decDigits (zs.getD k 0).toNat := by
  rw [adr, if_neg (by omega)]

theorem adr_len (zs : List Int) (hb : Bytes zs) : ∀ k, (adr zs k).length ≤ 21 * k
  | 0 => by simp [adr]
  | k + 1 => by
    have h := adr_len zs hb k
    have h2 := dd_len (zs.getD k 0).toNat (by have := hb.at k; omega)
    rw [adr]
    generalize zs.getD k 0 = z at *
    split <;> simp <;> omega

theorem putN_bytes (n : Int) (s : Nat) : Bytes (putN n s) := by
  intro z hz
  simp only [putN, List.mem_map] at hz
  obtain ⟨i, _, rfl⟩ := hz
  unfold digitN
  omega

def adC (a : Int) : Int := if btw a 0 4294967295 = true then 0 else 3
def adV (a : Int) : ByteArray := if btw a 0 4294967295 = true then ⟨(adr (putN a 4) 4).toArray⟩ else ByteArray.empty

theorem btw_dec (a x y : Int) : btw a x y = true → x ≤ a ∧ a ≤ y := by
  intro h; unfold btw at h; simpa using h

set_option maxRecDepth 20000 in
set_option maxHeartbeats 1000000 in
theorem specAddressText_ok (a : Int) (w : World) :
    Calls Tryd.prog 123 #[.int .i64 a] w fun e w' => e = .returned (.agg #[.int .i64 (adC a), .string (adV a)]) ∧ Below w.heap.size w w' := by
  by_cases h : btw a 0 4294967295 = true
  · have hab := btw_dec _ _ _ h
    have e1 := Hid.mk (show adC a = 0 from if_pos h)
    have e2 := Hid.mk (show adV a = ⟨(adr (putN a 4) 4).toArray⟩ from if_pos h)
    have hbz := Hid.mk (putN_bytes a 4)
    have hlen := Hid.mk (length_putN a 4)
    go_enter Tryd.func123, Tryd.ntmps123
    go_wp2_with fail
    refine (l2Address_ok _ _).mono ?_
    rintro e w1 ⟨rfl, rfl⟩
    rw [h]
    go_wp2_with fail
    refine (l1Bytes_ok a 4 _ hab.1 (by omega)).mono ?_
    rintro e w2 ⟨c, d, rfl, o2, b2⟩
    have R2 := o2.rd
    clear o2
    generalize putN a 4 = zs at *
    rcases R2 with ha | ⟨g, o, rfl, hca⟩
    · exfalso; have hx := hlen.out; rw [ha] at hx; simp at hx
    have hL := hlen.out
    have h0 : w2.cell? ⟨g, o, none⟩ = some (.int .u8 (zs.getD 0 0)) := hca 0 (by omega)
    obtain ⟨m, hm⟩ : ∃ m : Nat, zs.getD 0 0 = (m : Int) := ⟨_, Int.eq_ofNat_of_zero_le (hbz.out.at 0).1 |>.choose_spec⟩
    have hm2 := (hbz.out.at 0).2
    have HCA := Hid.mk hca
    clear hca
    have hS1 := Hid.mk (adr_one zs)
    rw [hm] at h0 hm2 hS1
    have r1 : IntKind.i64.wrap (m : Int) = m := by rw [IntKind.wrap_i64]; omega
    clear hm
    go_wp2_with fail
    refine (digits_ok m (by omega) _).mono ?_
    rintro e w3 ⟨rfl, b3⟩
    rw [show Lib.decDigits m = adr zs 1 from by rw [hS1.out]; simp]
    go_wp2_with fail
    go_loopw [4, 5] (fun t i wr => ∃ k : Nat, 1 ≤ k ∧ k ≤ 4 ∧ i = .int .i64 (k : Int) ∧ t = .string ⟨(adr zs k).toArray⟩ ∧ Below w2.heap.size w2 wr) (fun _ i _ => 4 - (intOf i).toNat)
    case atStart => exact ⟨1, Nat.le_refl _, by omega, rfl, rfl, b3⟩
    case round =>
      obtain ⟨k, hk1, hk4, rfl, rfl, hb⟩ := hrel
      by_cases hlt : k < 4
      · have hc := HCA.out k (by omega)
        have h1 := (hb.cell (p := ⟨g, o + k, none⟩) (World.block_lt_of_cell? (a := ⟨g, o + k, none⟩) w2 hc)).trans hc
        clear hc
        obtain ⟨m2, hm⟩ : ∃ m : Nat, zs.getD k 0 = (m : Int) := ⟨_, Int.eq_ofNat_of_zero_le (hbz.out.at k).1 |>.choose_spec⟩
        have hmx := (hbz.out.at k).2
        have hEq := adr_succ zs k hk1
        rw [hm] at h1 hmx hEq
        have hl := adr_len zs hbz.out k
        have hl2 := dd_len m2 (by omega)
        have hki : (k : Int) < 4 := by omega
        have r2 : IntKind.i64.wrap (m2 : Int) = m2 := by rw [IntKind.wrap_i64]; omega
        have C := digits_ok m2 (by omega)
        have hq : (⟨(adr zs (k + 1)).toArray⟩ : ByteArray) = ⟨(adr zs k).toArray⟩ ++ ⟨#[46]⟩ ++ ⟨(Lib.decDigits m2).toArray⟩ := by
          rw [hEq, show (#[46] : Array UInt8) = [46].toArray from rfl, ByteArray.mk_append_mk, ByteArray.mk_append_mk]
          simp
        have hs1 : (⟨(adr zs k).toArray⟩ : ByteArray).size ≤ 100 := by
          show (adr zs k).toArray.size ≤ 100
          simp; omega
        have hs2 : (⟨(Lib.decDigits m2).toArray⟩ : ByteArray).size ≤ 20 := by
          show (Lib.decDigits m2).toArray.size ≤ 20
          simpa using hl2
        have CC := Hid.mk C
        have HQ := Hid.mk hq
        clear C hEq hl hl2 hq hm
        generalize (⟨(adr zs k).toArray⟩ : ByteArray) = S at *
        generalize (⟨(Lib.decDigits m2).toArray⟩ : ByteArray) = D at *
        have hs3 : (S ++ ⟨#[46]⟩).size ≤ 101 := by
          rw [ByteArray.size_append]; show S.size + 1 ≤ 101; omega
        go_wp2_with fail
        refine (CC.out _).mono ?_
        rintro e w4 ⟨rfl, b4⟩
        go_wp2_with fail
        go_roundw
        case rel => exact ⟨k + 1, by omega, by omega, by go_num, by rw [HQ.out], thenB hb b4⟩
        case measure => simp [intOf]; omega
      · have hkn : k = 4 := by omega
        subst hkn
        have b5 := thenB b2 hb
        obtain ⟨hc1, hf1⟩ := bcell (W := w.alloc (.cells #[.int .i64 0, .string ByteArray.empty] 76)) (w1 := wr) b5
        have hz1 : w.heap.size + 1 ≤ wr.heap.size := by have := b5.size; simpa using this
        have B5 := Hid.mk b5
        clear b5 hb
        generalize (⟨(adr zs 4).toArray⟩ : ByteArray) = S at *
        go_wp2_with fail
        refine bodyPost_ret (v := .agg #[.int .i64 0, .string S]) (by simp [results, Tryd.results123, go_sem, hc1]) rfl ⟨by rw [e1.out, e2.out], ?_⟩
        exact ((thenB (belowA _ _) B5.out).setCell (by simp) _).setCell (by simp) _
  · have hf : btw a 0 4294967295 = false := by simpa using h
    have e1 := Hid.mk (show adC a = 3 from if_neg h)
    have e2 := Hid.mk (show adV a = ByteArray.empty from if_neg h)
    go_enter Tryd.func123, Tryd.ntmps123
    go_wp2_with fail
    refine (l2Address_ok _ _).mono ?_
    rintro e w1 ⟨rfl, rfl⟩
    rw [hf]
    go_wp2_with fail
    refine bodyPost_ret (v := .agg #[.int .i64 3, .string ByteArray.empty]) (by simp [results, Tryd.results123, go_sem]; rfl) rfl ⟨by rw [e1.out, e2.out], belowA _ _⟩

end Go.Proofs.YtngkahchhioncaaDoor
