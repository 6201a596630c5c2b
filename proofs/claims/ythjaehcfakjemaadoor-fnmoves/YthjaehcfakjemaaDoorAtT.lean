/- 'AddressText': what it stands on: a number from 0 on in decimal, the library's and the model's. -/
import Derived.Test.YthjaehcfakjemaaDoorShelf
import Derived.Test.YthjaehcfakjemaaDoorPut
import Derived.Test.YthjaehcfakjemaaDoorPkt
import Derived.Lib.ItoaLen
import Derived.Lib.Slices
import Derived.Laws.IdiomStrings
import Derived.Deep.RegionWith
import Derived.Deep.RegionHeld3
import Derived.BigCall
namespace Go.Proofs.YthjaehcfakjemaaDoor
open Go.RowKit


theorem dd_val (d : Nat) (h : d < 10) : ((UInt8.ofNat (48 + d)).toNat : Int) = 48 + (d : Int) := by
  have : (UInt8.ofNat (48 + d)).toNat = 48 + d := by
    rw [UInt8.toNat_ofNat']; omega
  omega

/-- 'string([]byte{'0' + d})'. -/
theorem one_digit_at (d : Nat) (h : d < 10) (B : Nat) (w : World) (hc : w.cell? ⟨B, 0, none⟩ = some (.int .u8 (48 + (d : Int)))) : (convert 22 9 (.slice (some ⟨B, 0, none⟩) 1 1)).run Tryd.prog w = .ok (.string ⟨(Lib.decDigits d).toArray⟩) w := by
  rw [Lib.decDigits_one h]
  refine run_convert_bytes_back (P := Tryd.prog) w 22 9 5 ⟨B, 0, none⟩ 1 [UInt8.ofNat (48 + d)] Tryd.underlying22 Tryd.underlying5 Tryd.underlying9 ?_
  intro j hj
  match j, hj with
  | 0, _ =>
    show w.cell? ⟨B, 0, none⟩ = some (.int .u8 ((UInt8.ofNat (48 + d)).toNat : Int))
    rw [hc, dd_val d h]

theorem one_digit (d : Nat) (h : d < 10) (w : World) : (convert 22 9 (.slice (some ⟨w.heap.size, 0, none⟩) 1 1)).run Tryd.prog (w.alloc (.cells #[.int .u8 (48 + (d : Int))] 5)) = .ok (.string ⟨(Lib.decDigits d).toArray⟩) (w.alloc (.cells #[.int .u8 (48 + (d : Int))] 5)) :=
  one_digit_at d h w.heap.size _ (cell_one w 5 (.int .u8 (48 + (d : Int))) 0 (.int .u8 (48 + (d : Int))) rfl)

set_option maxRecDepth 20000 in
set_option maxHeartbeats 400000 in
theorem digits_one (d : Nat) (h : d < 10) (w : World) :
    Calls Tryd.prog 65 #[.int .i64 (d : Int)] w fun e w' => e = .returned (.string ⟨(Lib.decDigits d).toArray⟩) ∧ Below w.heap.size w w' := by
  have h1 : (d : Int) < 10 := by omega
  have hcv := one_digit d h w
  go_enter Tryd.func65, Tryd.ntmps65
  go_wp2
  go_ret
  exact ⟨rfl, belowA _ _⟩

set_option maxRecDepth 20000 in
set_option maxHeartbeats 300000 in
theorem digits_step (n q d : Int) (sq sd : ByteArray) (h1 : 10 ≤ n) (e1 : n.tdiv 10 = q) (e2 : n.tmod 10 = d) (hd0 : 0 ≤ d) (hd1 : d ≤ 9) (hq0 : 0 ≤ q) (hq1 : q ≤ 6553) (hn : n ≤ 65535) (hs : sq.size + sd.size ≤ 9223372036854775807)
    (HC : Hid (∀ (B : Nat) (w : World), w.cell? ⟨B, 0, none⟩ = some (.int .u8 (48 + d)) → (convert 22 9 (.slice (some ⟨B, 0, none⟩) 1 1)).run Tryd.prog w = .ok (.string sd) w))
    (IH : Hid (∀ w, Calls Tryd.prog 65 #[.int .i64 q] w fun e w' => e = .returned (.string sq) ∧ Below w.heap.size w w')) (w : World) :
    Calls Tryd.prog 65 #[.int .i64 n] w fun e w' => e = .returned (.string (sq ++ sd)) ∧ Below w.heap.size w w' := by
  have hcv := HC.out w.heap.size ((w.alloc (.cells #[.int .u8 (48 + d)] 5)).drew) (cell_one w 5 (.int .u8 (48 + d)) 0 _ rfl)
  have g1 : IntKind.i64.wrap q = q := by rw [IntKind.wrap_i64]; omega
  have g2 : IntKind.i64.wrap (48 + d) = 48 + d := by rw [IntKind.wrap_i64]; omega
  have g3 : IntKind.u8.wrap (48 + d) = 48 + d := by rw [IntKind.wrap_u8]; omega
  go_enter Tryd.func65, Tryd.ntmps65
  go_wp2_with fail
  go_region_with (go_at_call 65; (try rw [g1]); refine (IH.out _).mono ?_; rintro e w1 ⟨rfl, b1⟩; first | have hcv2 := HC.out w.heap.size w1 (by rw [b1.cell (p := ⟨w.heap.size, 0, none⟩) (by simp)]; exact cell_one w.drew 5 _ 0 _ rfl) | have hcv3 := HC.out w1.heap.size (w1.alloc (.cells #[.int .u8 (48 + d)] 5)) (cell_one w1 5 (.int .u8 (48 + d)) 0 _ rfl))
  all_goals go_wp2_with fail
  all_goals go_ret
  · exact ⟨rfl, (thenB (Below.refl _ _).drew b1).alloc (by have := b1.size; simpa using this) _⟩
  · exact ⟨rfl, thenB (belowA w _).drew b1⟩
  · exact ⟨rfl, thenB (belowA w _).drew b1⟩

theorem dd_len (n : Nat) (h : n ≤ 65535) : (Lib.decDigits n).length ≤ 20 := by
  rw [Lib.decDigits_length]; exact Lib.nDigits_le20 n (by omega)

theorem digits_nat (n : Nat) (h : 10 ≤ n) (hn : n ≤ 65535) (ih : ∀ w, Calls Tryd.prog 65 #[.int .i64 ((n / 10 : Nat) : Int)] w fun e w' => e = .returned (.string ⟨(Lib.decDigits (n / 10)).toArray⟩) ∧ Below w.heap.size w w') (w : World) :
    Calls Tryd.prog 65 #[.int .i64 (n : Int)] w fun e w' => e = .returned (.string ⟨(Lib.decDigits n).toArray⟩) ∧ Below w.heap.size w w' := by
  have hD : Lib.decDigits n = Lib.decDigits (n / 10) ++ Lib.decDigits (n % 10) := by
    rw [Lib.decDigits, dif_neg (by omega), Lib.decDigits_one (i := n % 10) (by omega)]
  have l1 := dd_len (n / 10) (by omega)
  have l2 := dd_len (n % 10) (by omega)
  rw [hD, ← ByteArray.mk_append_mk]
  refine digits_step n ((n / 10 : Nat) : Int) ((n % 10 : Nat) : Int) ⟨(Lib.decDigits (n / 10)).toArray⟩ ⟨(Lib.decDigits (n % 10)).toArray⟩ (by omega) (by rw [Int.tdiv_eq_ediv_of_nonneg (by omega)]; omega) (by rw [Int.tmod_eq_emod_of_nonneg (by omega)]; omega) (by omega) (by omega) (by omega) (by omega) (by omega) ?_ ?_ ?_ w
  · show (Lib.decDigits (n / 10)).toArray.size + (Lib.decDigits (n % 10)).toArray.size ≤ _
    simp; omega
  · exact Hid.mk (fun B w hc => one_digit_at (n % 10) (by omega) B w hc)
  · exact Hid.mk ih

theorem digits_ok (n : Nat) (hn : n ≤ 65535) (w : World) :
    Calls Tryd.prog 65 #[.int .i64 (n : Int)] w fun e w' => e = .returned (.string ⟨(Lib.decDigits n).toArray⟩) ∧ Below w.heap.size w w' := by
  induction n using Nat.strongRecOn generalizing w with
  | _ n ih =>
    by_cases h1 : n < 10
    · exact digits_one n h1 w
    · exact digits_nat n (by omega) hn (fun w => ih (n / 10) (by omega) (by omega) w) w

end Go.Proofs.YthjaehcfakjemaaDoor
