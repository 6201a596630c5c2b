/- 'PutNumber', the model's and the program's, by contracts. -/
import Derived.Test.YthjaehcfakjemaaProg
import Derived.Test.YthjaehcfakjemaaHeld
namespace Go.Proofs.Ythjaehcfakjemaa
open Go.RowKit

theorem greatest_ok (s : Nat) (w : World) (h1 : 1 ≤ s) (h2 : s ≤ 7) :
    Calls Try.prog 61 #[.int .i64 (s : Int)] w fun e w' => e = .returned (.int .i64 ((2 : Int) ^ (8 * s) - 1)) ∧ w' = w := by
  rcases (by omega : s = 1 ∨ s = 2 ∨ s = 3 ∨ s = 4 ∨ s = 5 ∨ s = 6 ∨ s = 7) with rfl | rfl | rfl | rfl | rfl | rfl | rfl
  all_goals
    go_enter Try.func61, Try.ntmps61
    go_wp2
    go_ret
    exact ⟨rfl, rfl⟩

/-- The byte at place i of a number in s bytes, the highest first. -/
def digitN (n : Int) (s i : Nat) : Int := n / (2 : Int) ^ (8 * (s - 1 - i)) % 256
def putN (n : Int) (s : Nat) : List Int := (List.range s).map (digitN n s)

theorem length_putN (n : Int) (s : Nat) : (putN n s).length = s := by simp [putN]

theorem putN_at (n : Int) (s i : Nat) (h : i < s) : (putN n s).getD i 0 = digitN n s i := by simp [putN, List.getD, h]

theorem putN_take (n : Int) (s j : Nat) (h : j < s) : (putN n s).take (j + 1) = (putN n s).take j ++ [digitN n s j] := by
  rw [take_snoc _ _ (by rw [length_putN]; exact h), putN_at n s j h]

theorem cell_one (w : World) (e : TypeId) (v : Value) : ∀ j u, ([v] : List Value)[j]? = some u → (w.alloc (.cells #[v] e)).cell? ((⟨w.heap.size, 0, none⟩ : Addr).add j) = some u := by
  intro j u hj
  match j, hj with
  | 0, hj =>
    simp at hj
    subst hj
    rw [Addr.add_lit, World.cell?_alloc_at _ _ _ _ rfl]
    rfl

set_option maxRecDepth 20000 in
set_option maxHeartbeats 400000 in
theorem l1Bytes_ok (n : Int) (s : Nat) (w : World) (_h0 : 0 ≤ n) (h2 : s ≤ 7) :
    Calls Try.prog 54 #[.int .i64 n, .int .i64 (s : Int)] w fun e w' => ∃ c d, e = .returned (.slice c s d) ∧ Own .u8 5 w' w.heap.size c d (putN n s) ∧ Below w.heap.size w w' := by
  obtain ⟨i0, hi, hz0, hz1, hz2⟩ := info_parts Try.info_u8
  go_enter Try.func54, Try.ntmps54
  go_wp2
  go_loopw [5, 6] (fun v i wr => ∃ (j d : Nat) (c : Option Addr), j ≤ s ∧ i = .int .i64 ((s : Int) - 1 - (j : Int)) ∧ v = .slice c j d ∧ wr.ownsRow w.heap.size 5 1 v j (((putN n s).take j).map (Value.int .u8)) ∧ Below w.heap.size w wr) (fun _ i _ => (intOf i + 1).toNat)
  case atStart => exact ⟨0, 0, _, Nat.zero_le _, by simp, rfl, by simpa using World.ownsRow_made w #[] 0 (Nat.le_refl _) (Nat.zero_le _) rfl, belowA _ _⟩
  case round =>
    obtain ⟨j, d, c, hj, rfl, rfl, hown, hb⟩ := hrel
    by_cases hlt : j < s
    · have hk1 : 0 ≤ (s : Int) - 1 - (j : Int) := by omega
      go_wp2_with (at_builtin; refine wpList_append_own _ rfl _ _ 22 rfl w.heap.size 5 i0 (.int .u8 0) 1 1 Try.underlying22 hi hz0 hz1 hz2 rfl (by decide) _ _ _ rfl (hown.alloc _) ⟨wr.heap.size, 0, none⟩ 1 1 [.int .u8 (digitN n s j)] rfl rfl (cell_one _ _ _) ?_ (by unfold maxLen; omega) (by omega) (by have := hb.size; simp; omega) ?_)
      · intro u hu; simp at hu; subst hu; rfl
      intro v' w1 hown' hgrow _
      rw [← List.map_take] at hown'
      obtain ⟨hown2, hb2⟩ := appended hown hb (by have := hb.size; omega) hown' hgrow
      rw [← putN_take n s j hlt] at hown2
      obtain ⟨c', d', rfl⟩ := ownsRow_shape hown2
      have HO := Hid.mk hown2
      clear hown2 hown hown' hgrow
      go_wp2
      go_roundw
      case rel => exact ⟨j + 1, d', c', by omega, by go_num, rfl, HO.out, hb2⟩
      case measure => simp [intOf]; omega
    · have hjs : j = s := by omega
      subst hjs
      have hge : (j : Int) - 1 - (j : Int) < 0 := by omega
      rw [List.take_of_length_le (by rw [length_putN]; exact Nat.le_refl _)] at hown
      have HO := Hid.mk hown
      clear hown
      go_wp2
      go_ret
      exact ⟨_, _, rfl, Own.mk HO.out (length_putN _ _), hb⟩

/-- The code and the bytes that 'PutNumber' answers. -/
abbrev ptIn (n s : Int) : Prop := 1 ≤ s ∧ s ≤ 7 ∧ 0 ≤ n ∧ n ≤ (2 : Int) ^ (8 * s.toNat) - 1
def ptCode (n s : Int) : Int := if ptIn n s then 0 else 3
def ptVal (n s : Int) : List Int := if ptIn n s then putN n s.toNat else []

theorem pow2 (k : Nat) : ((2 ^ k : Nat) : Int) = (2 : Int) ^ k := by simp [Int.natCast_pow]

theorem pow2_bound (s : Nat) (h : s ≤ 7) : 1 ≤ (2 : Int) ^ (8 * s) ∧ (2 : Int) ^ (8 * s) ≤ 72057594037927936 := by
  have h1 : 2 ^ (8 * s) ≤ 2 ^ 56 := Nat.pow_le_pow_right (by omega) (by omega)
  have h2 : 0 < 2 ^ (8 * s) := Nat.pow_pos (by omega)
  have e : 2 ^ 56 = 72057594037927936 := by rfl
  rw [e] at h1
  rw [← pow2]
  omega

theorem wrap_pow2 (s : Nat) (h : s ≤ 7) : wrap64 ((2 : Int) ^ (8 * s)) = (2 : Int) ^ (8 * s) ∧ wrap64 ((2 : Int) ^ (8 * s) - 1) = (2 : Int) ^ (8 * s) - 1 := by
  have h1 := pow2_bound s h
  exact ⟨IntWalk.wrap64_in _ ⟨by omega, by omega⟩, IntWalk.wrap64_in _ ⟨by omega, by omega⟩⟩

/-- A row of which the last places are written, from 'm' on. -/
def tailFill (n : Int) (s m : Nat) : List Int := List.replicate m 0 ++ (putN n s).drop m

theorem tailFill_start (n : Int) (s : Nat) : tailFill n s s = List.replicate s 0 := by
  simp [tailFill, List.drop_eq_nil_of_le (Nat.le_of_eq (length_putN n s))]

theorem tailFill_end (n : Int) (s : Nat) : tailFill n s 0 = putN n s := by simp [tailFill]

theorem length_tailFill (n : Int) (s m : Nat) (h : m ≤ s) : (tailFill n s m).length = s := by simp [tailFill, length_putN]; omega

theorem tailFill_set (n : Int) (s m : Nat) (h : m < s) : (tailFill n s (m + 1)).set m (digitN n s m) = tailFill n s m := by
  unfold tailFill
  rw [List.set_append_left _ _ (by simp), List.replicate_succ', List.set_append_right _ _ (by simp)]
  have e : m < (putN n s).length := by rw [length_putN]; exact h
  have e2 : (putN n s)[m] = digitN n s m := by rw [← putN_at n s m h, getD_eq _ _ e]
  rw [List.drop_eq_getElem_cons e, e2]
  simp

theorem div_more (n : Int) (k : Nat) : n / (2 : Int) ^ (8 * k) / 256 = n / (2 : Int) ^ (8 * (k + 1)) := by
  rw [Int.ediv_ediv_of_nonneg (by rw [← pow2]; exact Int.natCast_nonneg _), show 8 * (k + 1) = 8 * k + 8 from by omega, Int.pow_add]
  rfl

theorem div_bound (n : Int) (k : Nat) (h : 0 ≤ n) : 0 ≤ n / (2 : Int) ^ k ∧ n / (2 : Int) ^ k ≤ n := by
  have hp : 0 < (2 : Int) ^ k := by rw [← pow2]; exact Int.natCast_pos.2 (Nat.pow_pos (by omega))
  exact ⟨Int.ediv_nonneg h (Int.le_of_lt hp), Int.ediv_le_self _ h⟩

set_option maxHeartbeats 1000000 in
theorem implPutNumber_ok (n s : Int) (w : World) :
    Calls Try.prog 59 #[.int .i64 n, .int .i64 s] w fun e w' => ∃ c d, e = .returned (.agg #[.int .i64 (ptCode n s), .slice c (ptVal n s).length d]) ∧ Own .u8 5 w' w.heap.size c d (ptVal n s) ∧ Below w.heap.size w w' := by
  by_cases h1 : 1 ≤ s ∧ s ≤ 7
  · obtain ⟨h1, h2⟩ := h1
    obtain ⟨s, rfl⟩ := Int.eq_ofNat_of_zero_le (by omega : 0 ≤ s)
    by_cases h3 : 0 ≤ n ∧ n ≤ (2 : Int) ^ (8 * s) - 1
    · have ht : ptIn n s := ⟨h1, h2, h3.1, h3.2⟩
      have r3 : decide ((2 : Int) ^ (8 * s) - 1 < n) = false := by simp only [decide_eq_false_iff_not]; omega
      have r4 : decide (n < 0) = false := by simp only [decide_eq_false_iff_not]; omega
      have hpb := pow2_bound s (by omega)
      have hnb : n ≤ 72057594037927936 := by omega
      have h3 := h3.1
      have e1 := Hid.mk (show ptCode n s = 0 from if_pos ht)
      have e2 := Hid.mk (show ptVal n s = putN n s from if_pos ht)
      clear ht hpb
      obtain ⟨i0, hi, hz0, hz1, hz2⟩ := info_parts Try.info_u8
      go_enter Try.func59, Try.ntmps59
      go_wp2_with (first | (go_at_call 61; refine (greatest_ok s _ (by omega) (by omega)).mono ?_; rintro e w1 ⟨rfl, rfl⟩) | (at_make; refine wpList_make_full _ rfl _ _ 22 rfl (w.heap.size + 1) 5 i0 (.int .u8 0) 1 Try.underlying22 hi hz0 hz1 .i64 .i64 _ _ s rfl rfl rfl rfl (by rw [hz2]; omega) (by unfold maxLen; omega) (by simp) ?_) | go_in)
      intro w1 hown hgrow
      have hown0 : w1.ownsRow (w.heap.size + 1) 5 1 (.slice (some ⟨w.heap.size + 1, 0, none⟩) s s) s ((tailFill n s s).map (Value.int .u8)) := by
        rw [tailFill_start]
        simpa [toList_madeCells_one] using hown
      have hbel : Below (w.heap.size + 1) (w.alloc (.cells #[.int .i64 0, .slice none 0 0] 31)) w1 := (Below.refl _ _).grown hgrow (by simp) (by intro k hk; cases hk)
      clear hown hgrow r3 r4
      go_wp2
      go_loopw [6, 7] (fun r i wr => ∃ m : Nat, m ≤ s ∧ i = .int .i64 ((m : Int) - 1) ∧ r = .int .u64 (n / (2 : Int) ^ (8 * (s - m))) ∧ wr.ownsRow (w.heap.size + 1) 5 1 (.slice (some ⟨w.heap.size + 1, 0, none⟩) s s) s ((tailFill n s m).map (Value.int .u8)) ∧ Below (w.heap.size + 1) (w.alloc (.cells #[.int .i64 0, .slice none 0 0] 31)) wr) (fun _ i _ => (intOf i + 1).toNat)
      case atStart => exact ⟨s, Nat.le_refl _, rfl, by simp, hown0, hbel⟩
      case round =>
        obtain ⟨m, hm, rfl, rfl, hown, hb⟩ := hrel
        by_cases hlt : 0 < m
        · obtain ⟨m, rfl⟩ : ∃ j, m = j + 1 := ⟨m - 1, by omega⟩
          have hcast : (((m + 1 : Nat) : Int) - 1) = (m : Int) := by omega
          rw [hcast]
          have hR := div_bound n (8 * (s - (m + 1))) h3
          have hD := Hid.mk (show digitN n s m = n / (2 : Int) ^ (8 * (s - (m + 1))) % 256 by unfold digitN; rw [show s - 1 - m = s - (m + 1) from by omega])
          have hM := Hid.mk (show n / (2 : Int) ^ (8 * (s - (m + 1))) / 256 = n / (2 : Int) ^ (8 * (s - m)) by rw [div_more, show s - (m + 1) + 1 = s - m from by omega])
          have hk1 : (m : Int) < (s : Int) := by omega
          have h2f : wr.frozen? ⟨w.heap.size + 1, m, none⟩ = false := hown.frozenAt m
          have h3c : wr.cell? ⟨w.heap.size + 1, m, none⟩ = some (.int .u8 ((tailFill n s (m + 1)).getD m 0)) := by
            rw [hown.cellAt m (by omega)]
            simp [List.getD, length_tailFill n s (m + 1) hm, show m < s by omega]
          have hs := hown.stored m (.int .u8 (digitN n s m))
          rw [set_map, tailFill_set n s m (by omega), hD.out] at hs
          have HS := Hid.mk hs.1
          have HB := Hid.mk (hb.setCell (p := ⟨w.heap.size + 1, m, none⟩) (Nat.le_refl _) (.int .u8 (n / (2 : Int) ^ (8 * (s - (m + 1))) % 256)))
          generalize n / (2 : Int) ^ (8 * (s - (m + 1))) = R at *
          obtain ⟨hR0, hR1⟩ := hR
          have hR2 : R ≤ 72057594037927936 := by omega
          clear hs hown hb hcast
          go_wp2
          go_roundw
          case rel => exact ⟨m, by omega, rfl, by rw [hM.out], HS.out, HB.out⟩
          case measure => simp [intOf]
        · obtain rfl : m = 0 := by omega
          rw [tailFill_end] at hown
          have hneg : (((0 : Nat) : Int) - 1) < 0 := by omega
          have HO := Hid.mk hown
          obtain ⟨hc1, hf1⟩ := bcell (W := w.alloc (.cells #[.int .i64 0, .slice none 0 0] 31)) (w1 := wr) (by simpa using hb)
          have hz1 : w.heap.size + 1 ≤ wr.heap.size := by have := hb.size; simpa using this
          clear hown
          go_wp2
          refine bodyPost_ret (v := .agg #[.int .i64 0, .slice (some ⟨w.heap.size + 1, 0, none⟩) s s]) (by simp [results, Try.results59, go_sem, hc1]) rfl ⟨some ⟨w.heap.size + 1, 0, none⟩, s, by rw [e1.out, e2.out, length_putN], ?_, ?_⟩
          · rw [e2.out]
            exact (((Own.mk HO.out (length_putN _ _)).below (by simp) _).below (by simp) _).mono (by simp)
          · exact (((belowA _ _).trans (hb.mono (by simp))).setCell (by simp) _).setCell (by simp) _
    · have ht : ¬ ptIn n s := fun h => h3 ⟨h.2.2.1, h.2.2.2⟩
      have e1 := Hid.mk (show ptCode n s = 3 from if_neg ht)
      have e2 := Hid.mk (show ptVal n s = [] from if_neg ht)
      clear ht
      rcases (by simp only [decide_eq_true_iff, decide_eq_false_iff_not]; omega : decide (n < 0) = true ∨ (decide (n < 0) = false ∧ decide ((2 : Int) ^ (8 * s) - 1 < n) = true)) with h5 | ⟨h5, h6⟩
      all_goals
        clear h3
        go_enter Try.func59, Try.ntmps59
        go_wp2_with (first | (go_at_call 61; refine (greatest_ok s _ (by omega) (by omega)).mono ?_; rintro e w1 ⟨rfl, rfl⟩) | go_in)
        refine bodyPost_ret (v := .agg #[.int .i64 3, .slice none 0 0]) (by simp [results, Try.results59, go_sem]) rfl ⟨none, 0, by rw [e1.out, e2.out]; rfl, by rw [e2.out]; exact own_none, belowA _ _⟩
  · have ht : ¬ ptIn n s := fun h => h1 ⟨h.1, h.2.1⟩
    have e1 := Hid.mk (show ptCode n s = 3 from if_neg ht)
    have e2 := Hid.mk (show ptVal n s = [] from if_neg ht)
    clear ht
    rcases (by simp only [decide_eq_false_iff_not]; omega : s < 1 ∨ (1 ≤ s ∧ decide (s ≤ 7) = false)) with h5 | ⟨h5, h6⟩
    all_goals
      clear h1
      go_enter Try.func59, Try.ntmps59
      go_wp2
      refine bodyPost_ret (v := .agg #[.int .i64 3, .slice none 0 0]) (by simp [results, Try.results59, go_sem]) rfl ⟨none, 0, by rw [e1.out, e2.out]; rfl, by rw [e2.out]; exact own_none, belowA _ _⟩

end Go.Proofs.Ythjaehcfakjemaa
