/- Terms: the fault of a term and of a table, in parts. -/
import Derived.Test.YthjaehcfakjemaaDoorTmK
namespace Go.Proofs.YthjaehcfakjemaaDoor
open Go.RowKit

set_option maxHeartbeats 400000 in
theorem isNaN_ok (x : Int) (w : World) : Calls Tryd.prog 104 #[.int .i64 x] w fun e w' => e = .returned (.bool false) ∧ w' = w := by
  have d : (x != x) = false := by simp
  go_enter Tryd.func104, Tryd.ntmps104
  go_wp2
  go_ret
  exact ⟨rfl, rfl⟩

set_option maxHeartbeats 400000 in
theorem less_ok (x y : Int) (w : World) : Calls Tryd.prog 88 #[.int .i64 x, .int .i64 y] w fun e w' => e = .returned (.bool (decide (x < y))) ∧ w' = w := by
  have CN := Hid.mk (isNaN_ok x)
  go_enter Tryd.func88, Tryd.ntmps88
  go_wp2_with fail
  refine (CN.out _).mono ?_
  rintro e w1 ⟨rfl, rfl⟩
  go_wp2
  go_ret
  exact ⟨rfl, rfl⟩

/-- Each is no greater than the next. -/
def srtB : List Int → Bool
  | x :: y :: r => decide (x ≤ y) && srtB (y :: r)
  | _ => true

theorem srtB_iff {zs : List Int} : srtB zs = true ↔ ∀ i, 0 < i → i < zs.length → zs.getD (i - 1) 0 ≤ zs.getD i 0 := by
  induction zs with
  | nil => simp [srtB]
  | cons x zs ih =>
    cases zs with
    | nil => simp [srtB]; intros; omega
    | cons y r =>
      rw [srtB, Bool.and_eq_true, ih]
      constructor
      · rintro ⟨h1, h2⟩ i h0 hi
        match i with
        | 1 => simpa using h1
        | i + 2 => have := h2 (i + 1) (by omega) (by simpa using hi); simpa using this
      · intro h
        refine ⟨by simpa using h 1 (by decide) (by simp), fun i h0 hi => ?_⟩
        have := h (i + 1) (by omega) (by simpa using hi)
        obtain ⟨k, rfl⟩ : ∃ k, i = k + 1 := ⟨i - 1, by omega⟩
        simpa using this

theorem srtB_no {zs : List Int} (i : Nat) (h0 : 0 < i) (hi : i < zs.length) (h : zs.getD i 0 < zs.getD (i - 1) 0) : srtB zs = false := by
  cases hs : srtB zs
  · rfl
  · have := srtB_iff.1 hs i h0 hi; omega

set_option maxHeartbeats 1000000 in
theorem isSorted_ok (c : Option Addr) (n d : Nat) (zs : List Int) (w : World) (hR : Rd .i64 w c zs) (hn : zs.length = n) (hx : n ≤ maxLen) :
    Calls Tryd.prog 78 #[.slice c n d] w fun e w' => e = .returned (.bool (srtB zs)) ∧ Below w.heap.size w w' := by
  unfold maxLen at hx
  obtain ⟨s, hs⟩ : ∃ s, srtB zs = s := ⟨_, rfl⟩
  have HS := Hid.mk hs
  rw [hs]
  clear hs
  go_enter Tryd.func78, Tryd.ntmps78
  go_wp2
  go_loopw [3] (fun i wr => ∃ k : Int, -1 ≤ k ∧ k < n ∧ i = .int .i64 k ∧ Hid (∀ j : Nat, k < j → j < n → 0 < j → zs.getD (j - 1) 0 ≤ zs.getD j 0) ∧ Below w.heap.size w wr) (fun i _ => (intOf i + 1).toNat)
  case atStart => exact ⟨(n : Int) - 1, by omega, by omega, rfl, Hid.mk fun j h1 h2 _ => by omega, Below.refl _ _⟩
  case round =>
    obtain ⟨k, hk0, hk1, rfl, hall, B⟩ := hrel
    by_cases hpos : 0 < k
    · obtain ⟨j, rfl⟩ : ∃ j : Nat, k = (j : Int) + 1 := ⟨(k - 1).toNat, by omega⟩
      obtain ⟨x, hx0⟩ : ∃ x, zs.getD (j + 1) 0 = x := ⟨_, rfl⟩
      obtain ⟨y, hy0⟩ : ∃ y, zs.getD j 0 = y := ⟨_, rfl⟩
      have hR2 := hR.kept B
      rcases hR2 with hR2 | ⟨b1, o1, rfl, hca⟩
      · simp [hR2] at hn; omega
      have p0 := hca (j + 1) (by omega)
      have p1 := hca j (by omega)
      rw [hx0] at p0
      rw [hy0] at p1
      have HX := Hid.mk hx0
      have HY := Hid.mk hy0
      clear hca hx0 hy0
      have CL := Hid.mk (less_ok x y)
      have e1 : (j : Int) + 1 - 1 = (j : Int) := by omega
      have hj : (j : Int) < (n : Int) := by omega
      have t1 : ((j : Int) + 1).toNat = j + 1 := by omega
      cases hg : decide (x < y)
      · rw [hg] at CL
        have HG := Hid.mk hg
        clear hg
        go_wp2
        go_quiet ((go_at_call 88; refine Calls.quiet_of_same (CL.out _)))
        go_wp2
        go_roundw
        case rel =>
          refine ⟨j, by omega, by omega, by go_num, Hid.mk fun i h1 h2 h3 => ?_, belowN B _⟩
          rcases (show (j : Int) + 1 < i ∨ i = j + 1 by omega) with h | h
          · exact hall.out i h h2 h3
          · subst h
            have := HG.out
            have h1 := HX.out
            have h2 := HY.out
            simp only [Nat.add_sub_cancel]
            rw [h1, h2]
            simp at this; omega
        case measure => simp [intOf]; omega
      · rw [hg] at CL
        have HG := Hid.mk hg
        clear hg
        go_wp2
        go_quiet ((go_at_call 88; refine Calls.quiet_of_same (CL.out _)))
        go_wp2
        go_ret
        refine ⟨ret_bool ?_, belowN B _⟩
        rw [← HS.out]
        refine (srtB_no (j + 1) (by omega) (by omega) ?_).symm
        have := HG.out
        simp only [Nat.add_sub_cancel]
        rw [HX.out, HY.out]
        simpa using this
    · have hp : ¬ (0 < k) := hpos
      go_wp2
      go_ret
      refine ⟨ret_bool ?_, B⟩
      rw [← HS.out]
      exact (srtB_iff.2 fun i h1 h2 => hall.out i (by omega) (by omega) h1).symm

/-- All of the places hold secrets. -/
@[irreducible] def allFr (xs : List T4) (zs : List Int) : Bool := zs.all fun z => (tmAt xs z).o == 2

theorem allFr_step (xs : List T4) (zs : List Int) (k : Nat) (h : k < zs.length) {z : Int} (hz : zs.getD k 0 = z) : allFr xs (zs.drop k) = (((tmAt xs z).o == 2) && allFr xs (zs.drop (k + 1))) := by
  unfold allFr
  rw [List.drop_eq_getElem_cons h, List.all_cons]
  have e : zs[k] = z := by rw [← hz]; simp [List.getD, h]
  rw [e]

set_option maxHeartbeats 1000000 in
theorem areRising_ok (a : Option Addr) (m ca : Nat) (xs : List T4) (c : Option Addr) (n d : Nat) (zs : List Int) (w : World) (hA : RdTerm w a xs) (hm : xs.length = m) (hR : Rd .i64 w c zs) (hn : zs.length = n) (hz : ∀ z ∈ zs, 0 ≤ z ∧ z < m) (hx : n ≤ maxLen) :
    Calls Tryd.prog 68 #[.slice a m ca, .slice c n d] w fun e w' => e = .returned (.bool (allFr xs zs && srtB zs)) ∧ Below w.heap.size w w' := by
  have CS := Hid.mk (fun w h => isSorted_ok c n d zs w h hn hx)
  have HZ := Hid.mk hz
  clear hz
  unfold maxLen at hx
  obtain ⟨s, hs⟩ : ∃ s, srtB zs = s := ⟨_, rfl⟩
  rw [hs] at CS ⊢
  clear hs
  obtain ⟨v, hv⟩ : ∃ v, allFr xs zs = v := ⟨_, rfl⟩
  have HV := Hid.mk hv
  rw [hv]
  clear hv
  go_enter Tryd.func68, Tryd.ntmps68
  go_wp2
  go_loopw [9] (fun i wr => ∃ k : Nat, k ≤ n ∧ i = .int .i64 k ∧ Hid (allFr xs (zs.drop k) = v) ∧ wr = w) (fun i _ => n - (intOf i).toNat)
  case atStart => exact ⟨0, Nat.zero_le _, rfl, HV, rfl⟩
  case round =>
    obtain ⟨k, hk, rfl, hdr, hwr⟩ := hrel
    subst hwr
    by_cases hlt : k < n
    · obtain ⟨z, hz⟩ : ∃ z, zs.getD k 0 = z := ⟨_, rfl⟩
      have hk1 : (k : Int) < (n : Int) := by omega
      have hs := allFr_step xs zs k (by omega) hz
      rw [hdr.out] at hs
      have hzm := HZ.out z (by rw [← hz]; simp [List.getD, show k < zs.length by omega])
      obtain ⟨j, rfl⟩ : ∃ j : Nat, z = (j : Int) := ⟨z.toNat, by omega⟩
      have hj : (j : Int) < (m : Int) := hzm.2
      have hR2 := hR
      have hA2 := hA
      rcases hR2 with hR2 | ⟨b1, o1, rfl, hca⟩
      · simp [hR2] at hn; omega
      rcases hA2 with hA2 | ⟨b2, o2, rfl, hcb⟩
      · simp [hA2] at hm; omega
      have p0 := hca k (by omega)
      rw [hz] at p0
      obtain ⟨x, hx1⟩ : ∃ x, xs.getD j zTerm = x := ⟨_, rfl⟩
      obtain ⟨q0, q1, q2, q3⟩ := RdTerm.cells hcb j (by omega) x hx1
      have e : tmAt xs (j : Int) = x := hx1
      rw [e] at hs
      clear hca hcb hz hx1 e hzm q1 q2 q3
      cases hg : (x.o == 2)
      · have hg2 : (x.o != 2) = true := by simp at hg ⊢; exact hg
        rw [hg, Bool.false_and] at hs
        have HS := Hid.mk hs
        clear hs hg
        go_wp2
        go_ret
        exact ⟨ret_bool (by rw [HS.out, Bool.false_and]), Below.refl _ _⟩
      · have hg2 : (x.o != 2) = false := by simp at hg ⊢; exact hg
        rw [hg, Bool.true_and] at hs
        have HS := Hid.mk hs
        clear hs hg
        go_wp2
        go_roundw
        case rel => exact ⟨k + 1, by omega, by go_num, Hid.mk HS.out.symm, by trivial⟩
        case measure => simp [intOf]; omega
    · have hkn : k = n := by omega
      subst hkn
      have hdr2 := hdr.out
      rw [List.drop_of_length_le (by omega)] at hdr2
      have hv2 : v = true := by rw [← hdr2]; unfold allFr; rfl
      subst hv2
      clear hdr hdr2
      go_wp2_with fail
      refine (CS.out _ hR).mono ?_
      rintro e w1 ⟨rfl, b1⟩
      go_wp2
      go_ret
      exact ⟨rfl, b1⟩

end Go.Proofs.YthjaehcfakjemaaDoor
