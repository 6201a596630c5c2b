/- SeenIn, TakeSeq of the program. -/
import Derived.Test.YtkpdbdcfimdnjaaWnC
import Derived.Test.YtkpdbdcfimdnjaaStrk
import Derived.BigRegion
namespace Go.Proofs.Ytkpdbdcfimdnjaa
open Go.RowKit

/-- What is answered when a number is taken: the code, the number, the window. -/
def tkR (x : Wn) (s : Int) : Int × Int × Wn := if tkC x s = 0 then (0, s, nxW x s) else (tkC x s, 0, ⟨0, 0⟩)

def tsR (x : Wn) (s : Int) : Int × Int × Wn := if tsC x s = 0 then (0, s, nxW x s) else (tsC x s, 0, ⟨0, 0⟩)

theorem tk_ways (x : Wn) (s : Int) : (¬ (1 ≤ s ∧ s ≤ 1099511627776) ∧ tkC x s = 3) ∨ ((1 ≤ s ∧ s ≤ 1099511627776) ∧ s < frW x ∧ tkC x s = 10) ∨ ((1 ≤ s ∧ s ≤ 1099511627776) ∧ frW x ≤ s ∧ had x s = true ∧ tkC x s = 7) ∨ ((1 ≤ s ∧ s ≤ 1099511627776) ∧ frW x ≤ s ∧ had x s = false ∧ tkC x s = 0) := by
  unfold tkC
  by_cases h : 1 ≤ s ∧ s ≤ 1099511627776
  · by_cases g : s < frW x
    · exact .inr (.inl ⟨h, g, by simp [h, g]⟩)
    · cases k : had x s
      · exact .inr (.inr (.inr ⟨h, by omega, rfl, by simp [h, g]⟩))
      · exact .inr (.inr (.inl ⟨h, by omega, rfl, by simp [h, g]⟩))
  · exact .inl ⟨h, by simp [h]⟩

set_option maxRecDepth 20000 in
set_option maxHeartbeats 4000000 in
theorem implSeen_ok (x : Wn) (s : Int) (hs : -9223372036854775808 ≤ s ∧ s ≤ 9223372036854775807) (w : World) :
    Calls Try.prog 17 #[.agg #[.int .i64 x.t, .int .i64 x.b], .int .i64 s] w fun e w' => e = .returned (.bool (seenW x s)) ∧ Below w.heap.size w w' := by
  have CF := Hid.mk (fun w => implWF_ok x w)
  by_cases h0 : wF x = 0
  · have hi := (wF_ok.mp h0).1
    have CI := Hid.mk (fun w => firstIn_ok x hi w)
    simp only [h0] at CF
    by_cases h1 : s < frW x
    · have d1 : decide (s < frW x) = true := by simp [h1]
      rw [show seenW x s = true by simp [seenW, h1]]
      clear h1 h0
      go_enter Try.func17, Try.ntmps17
      have B := Below.refl w.heap.size w
      have Bo := B
      replace B := thenB B (belowA w (.cells #[.int .i64 x.t, .int .i64 x.b] 25))
      have VA := V.new w [.int .i64 x.t, .int .i64 x.b] 25
      obtain ⟨s_VA, f_VA, z_VA⟩ := VA.open
      have Bo := B
      go_wp2_with fail
      refine (CF.out _).mono ?_
      rintro e w1 ⟨rfl, b1⟩
      clear s_VA f_VA z_VA
      have S1 := b1.size
      simp only [World.size_alloc] at S1
      replace VA := VA.kept b1
      replace B := thenB B b1
      clear b1
      obtain ⟨s_VA, f_VA, z_VA⟩ := VA.open
      have Bo := B
      go_wp2_with fail
      refine (CI.out _).mono ?_
      rintro e w2 ⟨rfl, b2⟩
      clear s_VA f_VA z_VA
      have S2 := b2.size
      replace VA := VA.kept b2
      replace B := thenB B b2
      clear b2
      obtain ⟨s_VA, f_VA, z_VA⟩ := VA.open
      have Bo := B
      go_wp2
      go_ret
      exact ⟨rfl, Bo⟩
    · have d1 : decide (s < frW x) = false := by simp [h1]
      have hs0 : 0 ≤ s := by unfold frW at h1; omega
      have CW := Hid.mk (fun w => wasTaken_ok x hi s hs0 w)
      rw [show seenW x s = had x s by simp [seenW, h1, h0]]
      clear h1 h0
      go_enter Try.func17, Try.ntmps17
      have B := Below.refl w.heap.size w
      have Bo := B
      replace B := thenB B (belowA w (.cells #[.int .i64 x.t, .int .i64 x.b] 25))
      have VA := V.new w [.int .i64 x.t, .int .i64 x.b] 25
      obtain ⟨s_VA, f_VA, z_VA⟩ := VA.open
      have Bo := B
      go_wp2_with fail
      refine (CF.out _).mono ?_
      rintro e w1 ⟨rfl, b1⟩
      clear s_VA f_VA z_VA
      have S1 := b1.size
      simp only [World.size_alloc] at S1
      replace VA := VA.kept b1
      replace B := thenB B b1
      clear b1
      obtain ⟨s_VA, f_VA, z_VA⟩ := VA.open
      have Bo := B
      go_wp2_with fail
      refine (CI.out _).mono ?_
      rintro e w2 ⟨rfl, b2⟩
      clear s_VA f_VA z_VA
      have S2 := b2.size
      replace VA := VA.kept b2
      replace B := thenB B b2
      clear b2
      obtain ⟨s_VA, f_VA, z_VA⟩ := VA.open
      have Bo := B
      go_wp2_with fail
      refine (CW.out _).mono ?_
      rintro e w3 ⟨rfl, b3⟩
      clear s_VA f_VA z_VA
      have S3 := b3.size
      replace VA := VA.kept b3
      replace B := thenB B b3
      clear b3
      obtain ⟨s_VA, f_VA, z_VA⟩ := VA.open
      have Bo := B
      go_wp2
      go_ret
      exact ⟨rfl, Bo⟩
  · have hne : (wF x != 0) = true := by simp [h0]
    rw [show seenW x s = true by simp [seenW, h0]]
    generalize wF x = k at *
    clear h0
    go_enter Try.func17, Try.ntmps17
    have B := Below.refl w.heap.size w
    have Bo := B
    replace B := thenB B (belowA w (.cells #[.int .i64 x.t, .int .i64 x.b] 25))
    have VA := V.new w [.int .i64 x.t, .int .i64 x.b] 25
    obtain ⟨s_VA, f_VA, z_VA⟩ := VA.open
    have Bo := B
    go_wp2_with fail
    refine (CF.out _).mono ?_
    rintro e w1 ⟨rfl, b1⟩
    clear s_VA f_VA z_VA
    have S1 := b1.size
    simp only [World.size_alloc] at S1
    replace VA := VA.kept b1
    replace B := thenB B b1
    clear b1
    obtain ⟨s_VA, f_VA, z_VA⟩ := VA.open
    have Bo := B
    go_wp2
    go_ret
    exact ⟨rfl, Bo⟩

set_option maxRecDepth 20000 in
set_option maxHeartbeats 4000000 in
theorem takeFault_ok (x : Wn) (s : Int) (hs : -9223372036854775808 ≤ s ∧ s ≤ 9223372036854775807) (w : World) :
    Calls Try.prog 47 #[.agg #[.int .i64 x.t, .int .i64 x.b], .int .i64 s] w fun e w' => e = .returned (.int .i64 (tsC x s)) ∧ Below w.heap.size w w' := by
  have CF := Hid.mk (fun w => implWF_ok x w)
  have CB := Hid.mk (isBetween_ok s 1 1099511627776)
  by_cases h0 : wF x = 0
  · have hi := (wF_ok.mp h0).1
    have CI := Hid.mk (fun w => firstIn_ok x hi w)
    simp only [h0] at CF
    rw [show tsC x s = tkC x s by simp [tsC, h0]]
    rcases tk_ways x s with ⟨h1, e⟩ | ⟨h1, h2, e⟩ | ⟨h1, h2, h3, e⟩ | ⟨h1, h2, h3, e⟩
    · rw [e]
      have hb : btw s 1 1099511627776 = false := by cases h : btw s 1 1099511627776; rfl; exact absurd (btw_iff.1 h) h1
      simp only [hb] at CB
      clear h1 h0 e hb
      go_enter Try.func47, Try.ntmps47
      have B := Below.refl w.heap.size w
      have Bo := B
      replace B := thenB B (belowA w (.cells #[.int .i64 x.t, .int .i64 x.b] 25))
      have VA := V.new w [.int .i64 x.t, .int .i64 x.b] 25
      obtain ⟨s_VA, f_VA, z_VA⟩ := VA.open
      have Bo := B
      go_wp2_with fail
      refine (CF.out _).mono ?_
      rintro e w1 ⟨rfl, b1⟩
      clear s_VA f_VA z_VA
      have S1 := b1.size
      simp only [World.size_alloc] at S1
      replace VA := VA.kept b1
      replace B := thenB B b1
      clear b1
      obtain ⟨s_VA, f_VA, z_VA⟩ := VA.open
      have Bo := B
      go_wp2_with fail
      refine (CB.out _).mono ?_
      rintro e wq ⟨rfl, rfl⟩
      go_wp2
      go_ret
      exact ⟨rfl, Bo⟩
    · rw [e]
      have hb : btw s 1 1099511627776 = true := btw_iff.2 h1
      simp only [hb] at CB
      have d1 : decide (s < frW x) = true := by simp [h2]
      clear h1 h0 e hb h2
      go_enter Try.func47, Try.ntmps47
      have B := Below.refl w.heap.size w
      have Bo := B
      replace B := thenB B (belowA w (.cells #[.int .i64 x.t, .int .i64 x.b] 25))
      have VA := V.new w [.int .i64 x.t, .int .i64 x.b] 25
      obtain ⟨s_VA, f_VA, z_VA⟩ := VA.open
      have Bo := B
      go_wp2_with fail
      refine (CF.out _).mono ?_
      rintro e w1 ⟨rfl, b1⟩
      clear s_VA f_VA z_VA
      have S1 := b1.size
      simp only [World.size_alloc] at S1
      replace VA := VA.kept b1
      replace B := thenB B b1
      clear b1
      obtain ⟨s_VA, f_VA, z_VA⟩ := VA.open
      have Bo := B
      go_wp2_with fail
      refine (CB.out _).mono ?_
      rintro e wq ⟨rfl, rfl⟩
      go_wp2_with fail
      refine (CI.out _).mono ?_
      rintro e w2 ⟨rfl, b2⟩
      clear s_VA f_VA z_VA
      have S2 := b2.size
      replace VA := VA.kept b2
      replace B := thenB B b2
      clear b2
      obtain ⟨s_VA, f_VA, z_VA⟩ := VA.open
      have Bo := B
      go_wp2
      go_ret
      exact ⟨rfl, Bo⟩
    · rw [e]
      have hb : btw s 1 1099511627776 = true := btw_iff.2 h1
      simp only [hb] at CB
      have d1 : decide (s < frW x) = false := by simp; omega
      have CW := Hid.mk (fun w => wasTaken_ok x hi s (by omega) w)
      simp only [h3] at CW
      clear h1 h0 e hb h2 h3
      go_enter Try.func47, Try.ntmps47
      have B := Below.refl w.heap.size w
      have Bo := B
      replace B := thenB B (belowA w (.cells #[.int .i64 x.t, .int .i64 x.b] 25))
      have VA := V.new w [.int .i64 x.t, .int .i64 x.b] 25
      obtain ⟨s_VA, f_VA, z_VA⟩ := VA.open
      have Bo := B
      go_wp2_with fail
      refine (CF.out _).mono ?_
      rintro e w1 ⟨rfl, b1⟩
      clear s_VA f_VA z_VA
      have S1 := b1.size
      simp only [World.size_alloc] at S1
      replace VA := VA.kept b1
      replace B := thenB B b1
      clear b1
      obtain ⟨s_VA, f_VA, z_VA⟩ := VA.open
      have Bo := B
      go_wp2_with fail
      refine (CB.out _).mono ?_
      rintro e wq ⟨rfl, rfl⟩
      go_wp2_with fail
      refine (CI.out _).mono ?_
      rintro e w2 ⟨rfl, b2⟩
      clear s_VA f_VA z_VA
      have S2 := b2.size
      replace VA := VA.kept b2
      replace B := thenB B b2
      clear b2
      obtain ⟨s_VA, f_VA, z_VA⟩ := VA.open
      have Bo := B
      go_wp2_with fail
      refine (CW.out _).mono ?_
      rintro e w3 ⟨rfl, b3⟩
      clear s_VA f_VA z_VA
      have S3 := b3.size
      replace VA := VA.kept b3
      replace B := thenB B b3
      clear b3
      obtain ⟨s_VA, f_VA, z_VA⟩ := VA.open
      have Bo := B
      go_wp2
      go_ret
      exact ⟨rfl, Bo⟩
    · rw [e]
      have hb : btw s 1 1099511627776 = true := btw_iff.2 h1
      simp only [hb] at CB
      have d1 : decide (s < frW x) = false := by simp; omega
      have CW := Hid.mk (fun w => wasTaken_ok x hi s (by omega) w)
      simp only [h3] at CW
      clear h1 h0 e hb h2 h3
      go_enter Try.func47, Try.ntmps47
      have B := Below.refl w.heap.size w
      have Bo := B
      replace B := thenB B (belowA w (.cells #[.int .i64 x.t, .int .i64 x.b] 25))
      have VA := V.new w [.int .i64 x.t, .int .i64 x.b] 25
      obtain ⟨s_VA, f_VA, z_VA⟩ := VA.open
      have Bo := B
      go_wp2_with fail
      refine (CF.out _).mono ?_
      rintro e w1 ⟨rfl, b1⟩
      clear s_VA f_VA z_VA
      have S1 := b1.size
      simp only [World.size_alloc] at S1
      replace VA := VA.kept b1
      replace B := thenB B b1
      clear b1
      obtain ⟨s_VA, f_VA, z_VA⟩ := VA.open
      have Bo := B
      go_wp2_with fail
      refine (CB.out _).mono ?_
      rintro e wq ⟨rfl, rfl⟩
      go_wp2_with fail
      refine (CI.out _).mono ?_
      rintro e w2 ⟨rfl, b2⟩
      clear s_VA f_VA z_VA
      have S2 := b2.size
      replace VA := VA.kept b2
      replace B := thenB B b2
      clear b2
      obtain ⟨s_VA, f_VA, z_VA⟩ := VA.open
      have Bo := B
      go_wp2_with fail
      refine (CW.out _).mono ?_
      rintro e w3 ⟨rfl, b3⟩
      clear s_VA f_VA z_VA
      have S3 := b3.size
      replace VA := VA.kept b3
      replace B := thenB B b3
      clear b3
      obtain ⟨s_VA, f_VA, z_VA⟩ := VA.open
      have Bo := B
      go_wp2
      go_ret
      exact ⟨rfl, Bo⟩
  · have hne : (wF x != 0) = true := by simp [h0]
    rw [show tsC x s = wF x by simp [tsC, h0]]
    generalize wF x = k at *
    clear h0
    go_enter Try.func47, Try.ntmps47
    have B := Below.refl w.heap.size w
    have Bo := B
    replace B := thenB B (belowA w (.cells #[.int .i64 x.t, .int .i64 x.b] 25))
    have VA := V.new w [.int .i64 x.t, .int .i64 x.b] 25
    obtain ⟨s_VA, f_VA, z_VA⟩ := VA.open
    have Bo := B
    go_wp2_with fail
    refine (CF.out _).mono ?_
    rintro e w1 ⟨rfl, b1⟩
    clear s_VA f_VA z_VA
    have S1 := b1.size
    simp only [World.size_alloc] at S1
    replace VA := VA.kept b1
    replace B := thenB B b1
    clear b1
    obtain ⟨s_VA, f_VA, z_VA⟩ := VA.open
    have Bo := B
    go_wp2
    go_ret
    exact ⟨rfl, Bo⟩

set_option maxRecDepth 20000 in
set_option maxHeartbeats 4000000 in
theorem withTaken_ok (x : Wn) (hi : inW x) (s : Int) (h1 : 1 ≤ s) (h2 : s ≤ 1099511627776) (h3 : frW x ≤ s) (w : World) :
    Calls Try.prog 48 #[.agg #[.int .i64 x.t, .int .i64 x.b], .int .i64 s] w fun e w' => e = .returned (.agg #[.int .i64 (nxW x s).t, .int .i64 (nxW x s).b]) ∧ Below w.heap.size w w' := by
  by_cases h : x.t < s
  · have d1 : decide (x.t < s) = true := by simp [h]
    have ee : nxW x s = ⟨s, ((x.b.toNat * 2 ^ (s - x.t).toNat % 4294967296 ||| 1 : Nat) : Int)⟩ := by unfold nxW; rw [if_pos h]
    rw [ee]
    clear ee
    obtain ⟨i1, i2, i3, i4⟩ := hi
    have hn : 0 ≤ s - x.t := by omega
    have hS : Op.shift .shl .u32 x.b .i64 (s - x.t) = pure (.int .u32 ((x.b.toNat * 2 ^ (s - x.t).toNat % 4294967296 : Nat) : Int)) := by
      have h9 := shift_shl_any .u32 .i64 x.b (s - x.t) hn
      rw [show IntKind.u32.bits = 32 from rfl, shlU i3 i4] at h9
      exact h9
    have hq := Nat.mod_lt (x.b.toNat * 2 ^ (s - x.t).toNat) (show 0 < 4294967296 by omega)
    generalize x.b.toNat * 2 ^ (s - x.t).toNat % 4294967296 = q at *
    have hO : bits .or .i64 (q : Int) 1 = ((q ||| 1 : Nat) : Int) := or64 q 1 (by omega) (by omega)
    generalize q ||| 1 = r at *
    have hu : IntKind.u32.wrap x.b = x.b := by rw [IntKind.wrap_u32']; omega
    have hw1 : IntKind.i64.wrap (q : Int) = (q : Int) := by simp [IntKind.wrap, IntKind.bits, IntKind.signed]; omega
    clear h
    go_enter Try.func48, Try.ntmps48
    go_wp2
    go_region
    go_wp2
    refine bodyPost_ret (v := .agg #[.int .i64 s, .int .i64 (r : Int)]) (by simp [results, Try.results48, go_sem]) rfl ⟨rfl, ?_⟩
    repeat' first | with_reducible exact Below.refl _ _ | with_reducible refine Below.drew ?_ | with_reducible refine Below.setCell ?_ ?_ _ | with_reducible refine Below.alloc ?_ ?_ _ | (simp; try omega)
  · have d1 : decide (x.t < s) = false := by simp; omega
    have ee : nxW x s = ⟨x.t, ((x.b.toNat ||| 2 ^ (x.t - s).toNat : Nat) : Int)⟩ := by unfold nxW; rw [if_neg h]
    rw [ee]
    clear ee
    obtain ⟨i1, i2, i3, i4⟩ := hi
    unfold frW at h3
    have hn : 0 ≤ x.t - s := by omega
    have hle : (x.t - s).toNat ≤ 31 := by omega
    have hS : Op.shift .shl .i64 1 .i64 (x.t - s) = pure (.int .i64 ((2 ^ (x.t - s).toNat : Nat) : Int)) := by
      have h9 := shift_shl_any .i64 .i64 1 (x.t - s) hn
      rw [show IntKind.i64.bits = 64 from rfl, shl1 hle] at h9
      exact h9
    have hp : 2 ^ (x.t - s).toNat ≤ 2 ^ 31 := Nat.pow_le_pow_right (by omega) hle
    generalize 2 ^ (x.t - s).toNat = p at *
    obtain ⟨b, hb⟩ := Int.eq_ofNat_of_zero_le i3
    rw [hb] at i4 ⊢
    have hO : bits .or .i64 (b : Int) (p : Int) = ((b ||| p : Nat) : Int) := or64 b p (by omega) (by omega)
    rw [Int.toNat_natCast]
    generalize b ||| p = r at *
    clear h hb h3 i3 hle
    go_enter Try.func48, Try.ntmps48
    go_wp2
    go_region
    go_wp2
    refine bodyPost_ret (v := .agg #[.int .i64 x.t, .int .i64 (r : Int)]) (by simp [results, Try.results48, go_sem]) rfl ⟨rfl, ?_⟩
    repeat' first | with_reducible exact Below.refl _ _ | with_reducible refine Below.drew ?_ | with_reducible refine Below.setCell ?_ ?_ _ | with_reducible refine Below.alloc ?_ ?_ _ | (simp; try omega)

end Go.Proofs.Ytkpdbdcfimdnjaa
