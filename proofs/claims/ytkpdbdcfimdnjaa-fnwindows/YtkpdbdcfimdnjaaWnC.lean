/- WindowFault: program and model. -/
import Derived.Test.YtkpdbdcfimdnjaaWnB
namespace Go.Proofs.Ytkpdbdcfimdnjaa
open Go.RowKit

theorem wF_ways (x : Wn) : (¬ inW x ∧ wF x = 3) ∨ (inW x ∧ ¬ fmW x ∧ wF x = 1) ∨ (inW x ∧ fmW x ∧ wF x = 0) := by
  unfold wF
  by_cases h : inW x
  · by_cases g : fmW x
    · exact .inr (.inr ⟨h, g, by simp [h, g]⟩)
    · exact .inr (.inl ⟨h, g, by simp [h, g]⟩)
  · exact .inl ⟨h, by simp [h]⟩

theorem wF_far {x : Wn} (h : ¬ inW x) : wF x = 3 := by simp [wF, h]

theorem wF_bad {x : Wn} (h : inW x) (g : ¬ fmW x) : wF x = 1 := by simp [wF, h, g]

theorem wF_good {x : Wn} (h : inW x) (g : fmW x) : wF x = 0 := by simp [wF, h, g]

theorem wF_row (x : Wn) : 0 ≤ wF x ∧ wF x ≤ 3 := by
  rcases wF_ways x with ⟨_, h⟩ | ⟨_, _, h⟩ | ⟨_, _, h⟩ <;> omega

set_option maxHeartbeats 4000000 in
theorem implWF_ok (x : Wn) (w : World) :
    Calls Try.prog 19 #[.agg #[.int .i64 x.t, .int .i64 x.b]] w fun e w' => e = .returned (.int .i64 (wF x)) ∧ Below w.heap.size w w' := by
  have CT := Hid.mk (isBetween_ok x.t 0 1099511627776)
  have CB := Hid.mk (isBetween_ok x.b 0 4294967295)
  have hb2 := inW_btw x
  cases hT : btw x.t 0 1099511627776
  · rw [hT, Bool.false_and] at hb2
    rw [wF_far (of_decide_eq_false hb2.symm)]
    simp only [hT] at CT
    clear hb2 hT CB
    go_enter Try.func19, Try.ntmps19
    go_wp2_with fail
    refine (CT.out _).mono ?_
    rintro e wq ⟨rfl, rfl⟩
    go_wp2
    go_ret
    exact ⟨rfl, belowA _ _⟩
  · cases hB : btw x.b 0 4294967295
    · rw [hT, hB, Bool.and_false] at hb2
      rw [wF_far (of_decide_eq_false hb2.symm)]
      simp only [hT] at CT
      simp only [hB] at CB
      clear hb2 hT hB
      go_enter Try.func19, Try.ntmps19
      go_wp2_with fail
      refine (CT.out _).mono ?_
      rintro e wq ⟨rfl, rfl⟩
      go_wp2_with fail
      refine (CB.out _).mono ?_
      rintro e wq ⟨rfl, rfl⟩
      go_wp2
      go_ret
      exact ⟨rfl, belowA _ _⟩
    · rw [hT, hB, Bool.and_true] at hb2
      have hi : inW x := of_decide_eq_true hb2.symm
      simp only [hT] at CT
      simp only [hB] at CB
      clear hb2 hT hB
      obtain ⟨i1, i2, i3, i4⟩ := id hi
      have hS : Op.shift .shr .i64 x.b .i64 x.t = pure (.int .i64 (x.b / 2 ^ min x.t.toNat 64)) := shift_shr_any _ _ _ _ i1
      have hz := shr_zero i3 i4 x.t.toNat
      generalize x.b / 2 ^ min x.t.toNat 64 = q at *
      by_cases hq : q = 0
      · have hlt := hz.mp hq
        have hq0 : (q != 0) = false := by simp [hq]
        subst hq
        clear hz
        by_cases ht : 0 < x.t
        · have hd : decide (0 < x.t) = true := by simp [ht]
          have CH := Hid.mk (wasTaken_ok x hi x.t i1)
          have hh : had x x.t = decide (x.b % 2 = 1) := by
            unfold had
            rw [show (x.t - x.t).toNat = 0 by omega, bt_zero _ i3]
            simp
          rw [hh] at CH
          by_cases hm : x.b % 2 = 1
          · rw [wF_good hi ⟨hlt, fun _ => hm⟩]
            simp only [hm, decide_true] at CH
            clear hh hm hi hlt
            go_enter Try.func19, Try.ntmps19
            go_wp2_with fail
            refine (CT.out _).mono ?_
            rintro e wq ⟨rfl, rfl⟩
            go_wp2_with fail
            refine (CB.out _).mono ?_
            rintro e wq ⟨rfl, rfl⟩
            go_wp2_with fail
            refine (CH.out _).mono ?_
            rintro e w1 ⟨rfl, b1⟩
            have B1 := thenB (belowA _ _) b1
            go_wp2
            go_ret
            exact ⟨rfl, B1⟩
          · rw [wF_bad hi (fun h => hm (h.2 ht))]
            simp only [hm, decide_false] at CH
            clear hh hm hi hlt
            go_enter Try.func19, Try.ntmps19
            go_wp2_with fail
            refine (CT.out _).mono ?_
            rintro e wq ⟨rfl, rfl⟩
            go_wp2_with fail
            refine (CB.out _).mono ?_
            rintro e wq ⟨rfl, rfl⟩
            go_wp2_with fail
            refine (CH.out _).mono ?_
            rintro e w1 ⟨rfl, b1⟩
            have B1 := thenB (belowA _ _) b1
            go_wp2
            go_ret
            exact ⟨rfl, B1⟩
        · have hd : decide (0 < x.t) = false := by simp [ht]
          rw [wF_good hi ⟨hlt, fun h => absurd h ht⟩]
          clear ht hi hlt
          go_enter Try.func19, Try.ntmps19
          go_wp2_with fail
          refine (CT.out _).mono ?_
          rintro e wq ⟨rfl, rfl⟩
          go_wp2_with fail
          refine (CB.out _).mono ?_
          rintro e wq ⟨rfl, rfl⟩
          go_wp2
          go_ret
          exact ⟨rfl, belowA _ _⟩
      · have hq0 : (q != 0) = true := by simp [hq]
        rw [wF_bad hi (fun h => hq (hz.mpr h.1))]
        clear hq hz hi
        go_enter Try.func19, Try.ntmps19
        go_wp2_with fail
        refine (CT.out _).mono ?_
        rintro e wq ⟨rfl, rfl⟩
        go_wp2_with fail
        refine (CB.out _).mono ?_
        rintro e wq ⟨rfl, rfl⟩
        go_wp2
        go_ret
        exact ⟨rfl, belowA _ _⟩

set_option maxHeartbeats 4000000 in
theorem specWF_ok (x : Wn) (w : World) :
    Calls Try.prog 22 #[.agg #[.int .i64 x.t, .int .i64 x.b]] w fun e w' => e = .returned (.int .i64 (wF x)) ∧ Below w.heap.size w w' := by
  have CT := Hid.mk (l1In_ok x.t 0 1099511627776)
  have CB := Hid.mk (l1In_ok x.b 0 4294967295)
  have hb2 := inW_btw x
  cases hT : btw x.t 0 1099511627776
  · rw [hT, Bool.false_and] at hb2
    rw [wF_far (of_decide_eq_false hb2.symm)]
    simp only [hT] at CT
    clear hb2 hT CB
    go_enter Try.func22, Try.ntmps22
    go_wp2_with fail
    refine (CT.out _).mono ?_
    rintro e wq ⟨rfl, rfl⟩
    go_wp2
    go_ret
    exact ⟨rfl, belowA _ _⟩
  · cases hB : btw x.b 0 4294967295
    · rw [hT, hB, Bool.and_false] at hb2
      rw [wF_far (of_decide_eq_false hb2.symm)]
      simp only [hT] at CT
      simp only [hB] at CB
      clear hb2 hT hB
      go_enter Try.func22, Try.ntmps22
      go_wp2_with fail
      refine (CT.out _).mono ?_
      rintro e wq ⟨rfl, rfl⟩
      go_wp2_with fail
      refine (CB.out _).mono ?_
      rintro e wq ⟨rfl, rfl⟩
      go_wp2
      go_ret
      exact ⟨rfl, belowA _ _⟩
    · rw [hT, hB, Bool.and_true] at hb2
      have hi : inW x := of_decide_eq_true hb2.symm
      simp only [hT] at CT
      simp only [hB] at CB
      clear hb2 hT hB
      obtain ⟨i1, i2, i3, i4⟩ := id hi
      have hA : bits .and .i64 x.b 1 = x.b % 2 := by
        obtain ⟨n, hn⟩ := Int.eq_ofNat_of_zero_le i3
        rw [hn, and1]; omega
      have hodd : x.b % 2 = 0 ∨ x.b % 2 = 1 := by omega
      by_cases ht : x.t = 0
      · have e0 : (x.t == 0) = true := by simp [ht]
        have e1 : decide (0 < x.t) = false := by simp [ht]
        by_cases hb : x.b = 0
        · have e2 : (x.b != 0) = false := by simp [hb]
          rw [wF_good hi ⟨by rw [hb]; exact Nat.two_pow_pos _, fun h => by omega⟩]
          have HL := Hid.mk (show ∀ k : Nat, k < 32 → bt x.b k = true → (k : Int) < x.t from fun k _ h => by simp [bt, hb] at h)
          clear ht hb hodd hA hi
          go_enter Try.func22, Try.ntmps22
          go_wp2_with fail
          refine (CT.out _).mono ?_
          rintro e wq ⟨rfl, rfl⟩
          go_wp2_with fail
          refine (CB.out _).mono ?_
          rintro e wq ⟨rfl, rfl⟩
          go_wp2
          go_loopw [3] (fun i wr => ∃ k : Nat, k ≤ 32 ∧ i = .int .i64 k ∧ Hid (∀ j : Nat, j < k → bt x.b j = true → (j : Int) < x.t) ∧ wr = w.alloc (.cells #[.int .i64 x.t, .int .i64 x.b] 25)) (fun i _ => 32 - (intOf i).toNat)
          case atStart => exact ⟨0, by omega, rfl, Hid.mk (fun j h => by omega), rfl⟩
          case round =>
            obtain ⟨k, hk, rfl, HI, rfl⟩ := hrel
            by_cases hlt : k < 32
            · have hki : (k : Int) < 32 := by omega
              have hB := shr_bt i3 i4 k
              rw [Nat.min_eq_left (by omega : k ≤ 64)] at hB
              by_cases hb : bt x.b k = true
              · rw [if_pos hb] at hB
                by_cases hc : (k : Int) < x.t
                · have d1 : decide (x.t - (k : Int) < 1) = false := by simp; omega
                  have HN : Hid (∀ j : Nat, j < k + 1 → bt x.b j = true → (j : Int) < x.t) := Hid.mk (fun j h1 h2 => by
                    rcases Nat.lt_or_ge j k with h3 | h3
                    · exact HI.out j h3 h2
                    · have h4 : j = k := by omega
                      rw [h4]; exact hc)
                  clear hb hc HI
                  go_wp2
                  go_roundw
                  case rel => exact ⟨k + 1, by omega, by go_num, HN, (by first | rfl | trivial)⟩
                  case measure => simp [intOf]; omega
                · have d1 : decide (x.t - (k : Int) < 1) = true := by simp; omega
                  exact absurd (HL.out k hlt hb) hc
              · rw [if_neg hb] at hB
                have HN : Hid (∀ j : Nat, j < k + 1 → bt x.b j = true → (j : Int) < x.t) := Hid.mk (fun j h1 h2 => by
                  rcases Nat.lt_or_ge j k with h3 | h3
                  · exact HI.out j h3 h2
                  · have h4 : j = k := by omega
                    rw [h4] at h2
                    exact absurd h2 hb)
                clear hb HI
                go_wp2
                go_roundw
                case rel => exact ⟨k + 1, by omega, by go_num, HN, (by first | rfl | trivial)⟩
                case measure => simp [intOf]; omega
            · have hk2 : k = 32 := by omega
              subst hk2
              clear HI HL
              go_wp2
              go_ret
              exact ⟨rfl, belowA _ _⟩
        · have e2 : (x.b != 0) = true := by simp [hb]
          rw [wF_bad hi (fun h => by have h1 := h.1; rw [ht] at h1; simp at h1; omega)]
          clear ht hb hodd hA hi
          go_enter Try.func22, Try.ntmps22
          go_wp2_with fail
          refine (CT.out _).mono ?_
          rintro e wq ⟨rfl, rfl⟩
          go_wp2_with fail
          refine (CB.out _).mono ?_
          rintro e wq ⟨rfl, rfl⟩
          go_wp2
          go_ret
          exact ⟨rfl, belowA _ _⟩
      · have e0 : (x.t == 0) = false := by simp [ht]
        have e1 : decide (0 < x.t) = true := by simp; omega
        rcases hodd with hm | hm
        · rw [hm] at hA
          rw [wF_bad hi (fun h => by have := h.2 (by omega); omega)]
          clear ht hm hi
          go_enter Try.func22, Try.ntmps22
          go_wp2_with fail
          refine (CT.out _).mono ?_
          rintro e wq ⟨rfl, rfl⟩
          go_wp2_with fail
          refine (CB.out _).mono ?_
          rintro e wq ⟨rfl, rfl⟩
          go_wp2
          go_ret
          exact ⟨rfl, belowA _ _⟩
        · rw [hm] at hA
          by_cases hl : x.b.toNat < 2 ^ x.t.toNat
          · rw [wF_good hi ⟨hl, fun _ => hm⟩]
            have HL := Hid.mk (show ∀ k : Nat, k < 32 → bt x.b k = true → (k : Int) < x.t from fun k h1 h2 => by have := (lt_bits i3 i4 x.t.toNat).mp hl k h1 h2; omega)
            clear ht hm hl hi
            go_enter Try.func22, Try.ntmps22
            go_wp2_with fail
            refine (CT.out _).mono ?_
            rintro e wq ⟨rfl, rfl⟩
            go_wp2_with fail
            refine (CB.out _).mono ?_
            rintro e wq ⟨rfl, rfl⟩
            go_wp2
            go_loopw [3] (fun i wr => ∃ k : Nat, k ≤ 32 ∧ i = .int .i64 k ∧ Hid (∀ j : Nat, j < k → bt x.b j = true → (j : Int) < x.t) ∧ wr = w.alloc (.cells #[.int .i64 x.t, .int .i64 x.b] 25)) (fun i _ => 32 - (intOf i).toNat)
            case atStart => exact ⟨0, by omega, rfl, Hid.mk (fun j h => by omega), rfl⟩
            case round =>
              obtain ⟨k, hk, rfl, HI, rfl⟩ := hrel
              by_cases hlt : k < 32
              · have hki : (k : Int) < 32 := by omega
                have hB := shr_bt i3 i4 k
                rw [Nat.min_eq_left (by omega : k ≤ 64)] at hB
                by_cases hb : bt x.b k = true
                · rw [if_pos hb] at hB
                  by_cases hc : (k : Int) < x.t
                  · have d1 : decide (x.t - (k : Int) < 1) = false := by simp; omega
                    have HN : Hid (∀ j : Nat, j < k + 1 → bt x.b j = true → (j : Int) < x.t) := Hid.mk (fun j h1 h2 => by
                      rcases Nat.lt_or_ge j k with h3 | h3
                      · exact HI.out j h3 h2
                      · have h4 : j = k := by omega
                        rw [h4]; exact hc)
                    clear hb hc HI
                    go_wp2
                    go_roundw
                    case rel => exact ⟨k + 1, by omega, by go_num, HN, (by first | rfl | trivial)⟩
                    case measure => simp [intOf]; omega
                  · have d1 : decide (x.t - (k : Int) < 1) = true := by simp; omega
                    exact absurd (HL.out k hlt hb) hc
                · rw [if_neg hb] at hB
                  have HN : Hid (∀ j : Nat, j < k + 1 → bt x.b j = true → (j : Int) < x.t) := Hid.mk (fun j h1 h2 => by
                    rcases Nat.lt_or_ge j k with h3 | h3
                    · exact HI.out j h3 h2
                    · have h4 : j = k := by omega
                      rw [h4] at h2
                      exact absurd h2 hb)
                  clear hb HI
                  go_wp2
                  go_roundw
                  case rel => exact ⟨k + 1, by omega, by go_num, HN, (by first | rfl | trivial)⟩
                  case measure => simp [intOf]; omega
              · have hk2 : k = 32 := by omega
                subst hk2
                clear HI HL
                go_wp2
                go_ret
                exact ⟨rfl, belowA _ _⟩
          · rw [wF_bad hi (fun h => hl h.1)]
            have HL : Hid (∃ k : Nat, k < 32 ∧ bt x.b k = true ∧ ¬ (k : Int) < x.t) := Hid.mk (by
              rcases Classical.em (∃ k : Nat, k < 32 ∧ bt x.b k = true ∧ ¬ (k : Int) < x.t) with h | h
              · exact h
              · refine absurd ((lt_bits i3 i4 x.t.toNat).mpr fun k h1 h2 => ?_) hl
                rcases Nat.lt_or_ge k x.t.toNat with h3 | h3
                · exact h3
                · exact absurd ⟨k, h1, h2, by omega⟩ h)
            clear ht hm hl hi
            go_enter Try.func22, Try.ntmps22
            go_wp2_with fail
            refine (CT.out _).mono ?_
            rintro e wq ⟨rfl, rfl⟩
            go_wp2_with fail
            refine (CB.out _).mono ?_
            rintro e wq ⟨rfl, rfl⟩
            go_wp2
            go_loopw [3] (fun i wr => ∃ k : Nat, k ≤ 32 ∧ i = .int .i64 k ∧ Hid (∀ j : Nat, j < k → bt x.b j = true → (j : Int) < x.t) ∧ wr = w.alloc (.cells #[.int .i64 x.t, .int .i64 x.b] 25)) (fun i _ => 32 - (intOf i).toNat)
            case atStart => exact ⟨0, by omega, rfl, Hid.mk (fun j h => by omega), rfl⟩
            case round =>
              obtain ⟨k, hk, rfl, HI, rfl⟩ := hrel
              by_cases hlt : k < 32
              · have hki : (k : Int) < 32 := by omega
                have hB := shr_bt i3 i4 k
                rw [Nat.min_eq_left (by omega : k ≤ 64)] at hB
                by_cases hb : bt x.b k = true
                · rw [if_pos hb] at hB
                  by_cases hc : (k : Int) < x.t
                  · have d1 : decide (x.t - (k : Int) < 1) = false := by simp; omega
                    have HN : Hid (∀ j : Nat, j < k + 1 → bt x.b j = true → (j : Int) < x.t) := Hid.mk (fun j h1 h2 => by
                      rcases Nat.lt_or_ge j k with h3 | h3
                      · exact HI.out j h3 h2
                      · have h4 : j = k := by omega
                        rw [h4]; exact hc)
                    clear hb hc HI
                    go_wp2
                    go_roundw
                    case rel => exact ⟨k + 1, by omega, by go_num, HN, (by first | rfl | trivial)⟩
                    case measure => simp [intOf]; omega
                  · have d1 : decide (x.t - (k : Int) < 1) = true := by simp; omega
                    clear hb hc HI HL
                    go_wp2
                    go_ret
                    exact ⟨rfl, belowA _ _⟩
                · rw [if_neg hb] at hB
                  have HN : Hid (∀ j : Nat, j < k + 1 → bt x.b j = true → (j : Int) < x.t) := Hid.mk (fun j h1 h2 => by
                    rcases Nat.lt_or_ge j k with h3 | h3
                    · exact HI.out j h3 h2
                    · have h4 : j = k := by omega
                      rw [h4] at h2
                      exact absurd h2 hb)
                  clear hb HI
                  go_wp2
                  go_roundw
                  case rel => exact ⟨k + 1, by omega, by go_num, HN, (by first | rfl | trivial)⟩
                  case measure => simp [intOf]; omega
              · have hk2 : k = 32 := by omega
                subst hk2
                obtain ⟨j, h1, h2, h3⟩ := HL.out
                exact absurd (HI.out j h1 h2) (by omega)

end Go.Proofs.Ytkpdbdcfimdnjaa
