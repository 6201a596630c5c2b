/- Lists of numbers brought over by the law. -/
import Derived.Test.YtkpdbdcfimdnjaaIntH
namespace Go.Proofs.Ytkpdbdcfimdnjaa
open Go.RowKit

set_option maxHeartbeats 400000 in
theorem toInt64S_ok (a : Option Addr) (n ca : Nat) (xs : List Int) (w : World) (ha : Rd .i64 w a xs) (hn : xs.length = n) (hx : n ≤ 1048576) :
    Calls Try.prog 32 #[.slice a n ca] w fun e w' => e = .returned (.slice (some ⟨w.heap.size, 0, none⟩) n n) ∧ Own .i64 2 w' w.heap.size (some ⟨w.heap.size, 0, none⟩) n xs ∧ Below w.heap.size w w' := by
  obtain ⟨i0, hi, hz0, hz1, hz2⟩ := info_parts Try.infoI64
  go_enter Try.func32, Try.ntmps32
  go_wp2_with (at_make; refine wpList_make_full _ rfl _ _ 26 rfl w.heap.size 2 i0 (.int .i64 0) 1 Try.underlying26 hi hz0 hz1 .i64 .i64 _ _ n rfl rfl rfl rfl (by rw [hz2]; omega) (by unfold maxLen; omega) (Nat.le_refl _) ?_)
  intro w1 hown hgrow
  have hown0 : w1.ownsRow w.heap.size 2 1 (.slice (some ⟨w.heap.size, 0, none⟩) n n) n ((fill xs 0 n).map (Value.int .i64)) := by
    rw [fill_zero]
    simpa [toList_madeCells_one] using hown
  have hbel : Below w.heap.size w w1 := (Below.refl _ _).grown hgrow (Nat.le_refl _) (by intro k hk; cases hk)
  clear hown hgrow
  go_wp2
  go_loopw [4] (fun i wr => ∃ k : Nat, k ≤ n ∧ i = .int .i64 k ∧ wr.ownsRow w.heap.size 2 1 (.slice (some ⟨w.heap.size, 0, none⟩) n n) n ((fill xs k n).map (Value.int .i64)) ∧ Below w.heap.size w wr) (fun i _ => n - (intOf i).toNat)
  case atStart => exact ⟨0, Nat.zero_le _, rfl, hown0, hbel⟩
  case round =>
    obtain ⟨k, hk, rfl, hown, hb⟩ := hrel
    by_cases hlt : k < n
    · rcases ha with ha | ⟨b1, o1, rfl, hca⟩
      · simp [ha] at hn; omega
      have h0 := hca k (by omega)
      have h1 : wr.cell? ⟨b1, o1 + k, none⟩ = some (.int .i64 (xs.getD k 0)) := (hb.cell (World.block_lt_of_cell? (a := ⟨b1, o1 + k, none⟩) w h0)).trans h0
      have h2 : wr.frozen? ⟨w.heap.size, k, none⟩ = false := hown.frozenAt k
      have h3 : wr.cell? ⟨w.heap.size, k, none⟩ = some (.int .i64 ((fill xs k n).getD k 0)) := by
        rw [hown.cellAt k (by omega)]
        simp [List.getD, length_fill xs k n hn hk, hlt]
      have hk1 : (k : Int) < (n : Int) := by omega
      have hs := hown.stored k (.int .i64 (xs.getD k 0))
      rw [set_map, fill_set xs k n hn hlt] at hs
      have HS := Hid.mk hs.1
      have hb2 := hb.setCell (p := ⟨w.heap.size, k, none⟩) (Nat.le_refl _) (.int .i64 (xs.getD k 0))
      rw [getD_eq xs k (by omega)] at HS hb2
      clear hs hca hown h0
      go_wp2
      go_roundw
      case rel => exact ⟨k + 1, by omega, by go_num, HS.out, hb2⟩
      case measure => simp [intOf]; omega
    · have hkn : k = n := by omega
      subst hkn
      rw [fill_all xs k hn] at hown
      have HO := Hid.mk hown
      clear hown
      go_wp2
      go_ret
      exact ⟨rfl, by unfold Own; rw [hn]; exact HO.out, hb⟩

end Go.Proofs.Ytkpdbdcfimdnjaa
