/- The faults of lists of selectors: both sides. -/
import Derived.Test.YtmbkbbephmblmaaSelM
import Derived.Test.YtmbkbbephmblmaaSelF
import Derived.Test.YtmbkbbephmblmaaSelG
namespace Go.Proofs.Ytmbkbbephmblmaa
open Go.RowKit

/-- The first fault of a list. -/
def ssF : List S9 → Int
  | [] => 0
  | x :: xs => if sfC x = 0 then ssF xs else sfC x

/-- The fault of a list of selectors. -/
@[irreducible] def ssC (xs : List S9) : Int := if 1 ≤ xs.length ∧ xs.length ≤ 12 then ssF xs else 2

theorem ssF_drop (xs : List S9) (k : Nat) (h : k < xs.length) : ssF (xs.drop k) = if sfC (xs.getD k z9) = 0 then ssF (xs.drop (k + 1)) else sfC (xs.getD k z9) := by
  rw [List.drop_eq_getElem_cons h, show xs.getD k z9 = xs[k] by simp [List.getD, h]]
  rfl

theorem ssF_zero {xs : List S9} (h : ssF xs = 0) : ∀ x ∈ xs, sfC x = 0 := by
  induction xs with
  | nil => intro x hx; cases hx
  | cons y xs ih =>
    simp only [ssF] at h
    by_cases hy : sfC y = 0
    · rw [if_pos hy] at h
      intro x hx
      rcases List.mem_cons.1 hx with rfl | hx
      · exact hy
      · exact ih h x hx
    · rw [if_neg hy] at h; exact absurd h hy

theorem ssF_all {xs : List S9} (h : ∀ x ∈ xs, sfC x = 0) : ssF xs = 0 := by
  induction xs with
  | nil => rfl
  | cons y xs ih => rw [ssF, if_pos (h y (by simp))]; exact ih fun x hx => h x (by simp [hx])

theorem ssC_zero {xs : List S9} (h : ssC xs = 0) : (1 ≤ xs.length ∧ xs.length ≤ 12) ∧ ∀ x ∈ xs, sfC x = 0 := by
  unfold ssC at h
  split at h
  · exact ⟨by assumption, ssF_zero h⟩
  · omega

theorem ssC_all {xs : List S9} (h1 : 1 ≤ xs.length) (h2 : xs.length ≤ 12) (h : ∀ x ∈ xs, sfC x = 0) : ssC xs = 0 := by
  unfold ssC
  rw [if_pos ⟨h1, h2⟩, ssF_all h]

set_option maxHeartbeats 1000000 in
theorem implSelsFault_ok (a : Option Addr) (n ca : Nat) (xs : List S9) (w : World) (ha : RdL w a xs) (hn : xs.length = n) (hx : n ≤ maxLen) :
    Calls Try.prog 62 #[.slice a n ca] w fun e w' => e = .returned (.int .i64 (ssC xs)) ∧ Below w.heap.size w w' := by
  unfold maxLen at hx
  by_cases h1 : n < 1
  · have hr : ssC xs = 2 := by unfold ssC; rw [if_neg (by omega)]
    have d1 : decide ((n : Int) < 1) = true := by simp; omega
    rw [hr]
    clear hr h1
    go_enter Try.func62, Try.ntmps62
    go_wp2
    go_ret
    exact ⟨rfl, Below.refl _ _⟩
  by_cases h2 : 12 < n
  · have hr : ssC xs = 2 := by unfold ssC; rw [if_neg (by omega)]
    have d1 : decide ((n : Int) < 1) = false := by simp; omega
    have d2 : decide ((12 : Int) < n) = true := by simp; omega
    rw [hr]
    clear hr h1 h2
    go_enter Try.func62, Try.ntmps62
    go_wp2
    go_ret
    exact ⟨rfl, Below.refl _ _⟩
  have hr : ssC xs = ssF xs := by unfold ssC; rw [if_pos (by omega)]
  have d1 : decide ((n : Int) < 1) = false := by simp; omega
  have d2 : decide ((12 : Int) < n) = false := by simp; omega
  rw [hr]
  clear hr h1 h2
  go_enter Try.func62, Try.ntmps62
  go_wp2
  clear d1 d2
  go_loopw [16] (fun i wr => ∃ k : Nat, k ≤ n ∧ i = .int .i64 k ∧ ssF (xs.drop k) = ssF xs ∧ Below w.heap.size w wr) (fun i _ => n - (intOf i).toNat)
  case atStart => exact ⟨0, Nat.zero_le _, rfl, rfl, Below.refl _ _⟩
  case round =>
    obtain ⟨k, hk, rfl, hdr, hbel⟩ := hrel
    by_cases hlt : k < n
    · replace ha := ha.kept hbel
      rcases ha with ha | ⟨b1, o1, rfl, hca⟩
      · simp [ha] at hn; omega
      obtain ⟨x, hx1⟩ : ∃ x, xs.getD k z9 = x := ⟨_, rfl⟩
      obtain ⟨p0, p1, p2, p3, p4, p5, p6, p7, p8⟩ := RdL.nine hca k (by omega) x hx1
      have hk1 : (k : Int) < (n : Int) := by omega
      have hs := ssF_drop xs k (by omega)
      rw [hx1, hdr] at hs
      clear hca hx1 hdr
      have CX := Hid.mk (fun w => implSelFault_ok x w)
      replace hbel := Hid.mk (hbel.alloc hbel.size (.cells #[.int .i64 x.a, .int .i64 x.b, .int .i64 x.c, .int .i64 x.d, .int .i64 x.e, .int .i64 x.f, .int .i64 x.g, .int .i64 x.h, .int .i64 x.r] 27))
      by_cases h0 : sfC x = 0
      · rw [if_pos h0] at hs
        rw [h0] at CX
        have HS := Hid.mk hs.symm
        clear hs h0
        go_wp2_with fail
        refine (CX.out _).mono ?_
        rintro e w2 ⟨rfl, b2⟩
        have BX := Hid.mk (hbel.out.trans (b2.mono hbel.out.size))
        clear b2 p0 p1 p2 p3 p4 p5 p6 p7 p8
        go_wp2
        go_roundw
        case rel => exact ⟨k + 1, by omega, by go_num, HS.out, BX.out⟩
        case measure => simp [intOf]; omega
      · rw [if_neg h0] at hs
        have HS := Hid.mk hs
        have hne : (sfC x != 0) = true := by simp [h0]
        clear hs h0
        go_wp2_with fail
        refine (CX.out _).mono ?_
        rintro e w2 ⟨rfl, b2⟩
        have BX := Hid.mk (hbel.out.trans (b2.mono hbel.out.size))
        clear b2 p0 p1 p2 p3 p4 p5 p6 p7 p8
        go_wp2
        go_ret
        exact ⟨ret_int HS.out.symm, BX.out⟩
    · have hkn : k = n := by omega
      subst hkn
      rw [List.drop_of_length_le (by omega)] at hdr
      have HS := Hid.mk hdr
      clear hdr
      go_wp2
      go_ret
      exact ⟨ret_int HS.out, hbel⟩

set_option maxHeartbeats 1000000 in
theorem specSelsFault_ok (a : Option Addr) (n ca : Nat) (xs : List S9) (w : World) (ha : RdL w a xs) (hn : xs.length = n) (hx : n ≤ maxLen) :
    Calls Try.prog 64 #[.slice a n ca] w fun e w' => e = .returned (.int .i64 (ssC xs)) ∧ Below w.heap.size w w' := by
  unfold maxLen at hx
  by_cases h1 : n < 1
  · have hr : ssC xs = 2 := by unfold ssC; rw [if_neg (by omega)]
    have d1 : decide ((n : Int) < 1) = true := by simp; omega
    rw [hr]
    clear hr h1
    go_enter Try.func64, Try.ntmps64
    go_wp2
    go_ret
    exact ⟨rfl, Below.refl _ _⟩
  by_cases h2 : 12 < n
  · have hr : ssC xs = 2 := by unfold ssC; rw [if_neg (by omega)]
    have d1 : decide ((n : Int) < 1) = false := by simp; omega
    have d2 : decide ((12 : Int) < n) = true := by simp; omega
    rw [hr]
    clear hr h1 h2
    go_enter Try.func64, Try.ntmps64
    go_wp2
    go_ret
    exact ⟨rfl, Below.refl _ _⟩
  have hr : ssC xs = ssF xs := by unfold ssC; rw [if_pos (by omega)]
  have d1 : decide ((n : Int) < 1) = false := by simp; omega
  have d2 : decide ((12 : Int) < n) = false := by simp; omega
  rw [hr]
  clear hr h1 h2
  go_enter Try.func64, Try.ntmps64
  go_wp2
  clear d1 d2
  go_loopw [3] (fun i wr => ∃ k : Nat, k ≤ n ∧ i = .int .i64 k ∧ ssF (xs.drop k) = ssF xs ∧ Below w.heap.size w wr) (fun i _ => n - (intOf i).toNat)
  case atStart => exact ⟨0, Nat.zero_le _, rfl, rfl, Below.refl _ _⟩
  case round =>
    obtain ⟨k, hk, rfl, hdr, hbel⟩ := hrel
    by_cases hlt : k < n
    · replace ha := ha.kept hbel
      rcases ha with ha | ⟨b1, o1, rfl, hca⟩
      · simp [ha] at hn; omega
      obtain ⟨x, hx1⟩ : ∃ x, xs.getD k z9 = x := ⟨_, rfl⟩
      obtain ⟨p0, p1, p2, p3, p4, p5, p6, p7, p8⟩ := RdL.nine hca k (by omega) x hx1
      have hk1 : (k : Int) < (n : Int) := by omega
      have hs := ssF_drop xs k (by omega)
      rw [hx1, hdr] at hs
      clear hca hx1 hdr
      have CX := Hid.mk (fun w => specSelFault_ok x w)
      replace hbel := Hid.mk hbel
      by_cases h0 : sfC x = 0
      · rw [if_pos h0] at hs
        rw [h0] at CX
        have HS := Hid.mk hs.symm
        clear hs h0
        go_wp2_with fail
        refine (CX.out _).mono ?_
        rintro e w2 ⟨rfl, b2⟩
        have BX := Hid.mk (hbel.out.trans (b2.mono hbel.out.size))
        clear b2 p0 p1 p2 p3 p4 p5 p6 p7 p8
        go_wp2
        go_roundw
        case rel => exact ⟨k + 1, by omega, by go_num, HS.out, BX.out⟩
        case measure => simp [intOf]; omega
      · rw [if_neg h0] at hs
        have HS := Hid.mk hs
        have hne : (sfC x != 0) = true := by simp [h0]
        clear hs h0
        go_wp2_with fail
        refine (CX.out _).mono ?_
        rintro e w2 ⟨rfl, b2⟩
        have BX := Hid.mk (hbel.out.trans (b2.mono hbel.out.size))
        clear b2 p0 p1 p2 p3 p4 p5 p6 p7 p8
        go_wp2
        go_ret
        exact ⟨ret_int HS.out.symm, BX.out⟩
    · have hkn : k = n := by omega
      subst hkn
      rw [List.drop_of_length_le (by omega)] at hdr
      have HS := Hid.mk hdr
      clear hdr
      go_wp2
      go_ret
      exact ⟨ret_int HS.out, hbel⟩

end Go.Proofs.Ytmbkbbephmblmaa
