/- SizeOf of the model; the fault of a place (SizeOf of the program: RkA). -/
import Derived.Test.YtdggihikkegjjaaTmV
namespace Go.Proofs.Ytdggihikkegjjaa
open Go.RowKit

set_option maxHeartbeats 1000000 in
theorem l5At_ok (a : Option Addr) (n ca : Nat) (q : Int) (w : World) (hx : n ≤ maxLen) :
    Calls Try.prog 84 #[.slice a n ca, .int .i64 q] w fun e w' => e = .returned (.bool (btw q 0 ((n : Int) - 1))) ∧ w' = w := by
  unfold maxLen at hx
  have CI := Hid.mk (l1In_ok q 0 ((n : Int) - 1))
  go_enter Try.func84, Try.ntmps84
  go_wp2_with fail
  refine (CI.out _).mono ?_
  rintro e wq ⟨rfl, rfl⟩
  go_wp2
  go_ret
  exact ⟨rfl, rfl⟩

set_option maxHeartbeats 1000000 in
theorem l5Asked_ok (a : Option Addr) (n ca : Nat) (xs : List T4) (q : Int) (w : World) (ha : RdTerm w a xs) (hn : xs.length = n) (hx : n ≤ maxLen) (hca : n ≤ ca) :
    Calls Try.prog 62 #[.slice a n ca, .int .i64 q] w fun e w' => e = .returned (.int .i64 (akC xs q)) ∧ Below w.heap.size w w' := by
  have CT := Hid.mk (specTermsFault_ok a n ca xs w ha hn hx hca)
  have CA := Hid.mk (fun w => l5At_ok a n ca q w hx)
  have HW := ak_ways xs q
  rw [hn] at HW
  clear ha
  rcases HW with ⟨h1, hr⟩ | ⟨h1, h2, hr⟩ | ⟨h1, h2, hr⟩
  · rw [hr]
    have h3 : (tfC xs != 0) = true := by simp [h1]
    clear hr h1
    generalize tfC xs = kk at *
    go_enter Try.func62, Try.ntmps62
    go_wp2_with fail
    refine CT.out.mono ?_
    rintro e w1 ⟨rfl, b1⟩
    go_wp2
    go_ret
    exact ⟨rfl, b1⟩
  all_goals
    rw [hr]
    rw [h1] at CT
    rw [h2] at CA
    clear hr h1 h2
    go_enter Try.func62, Try.ntmps62
    go_wp2_with fail
    refine CT.out.mono ?_
    rintro e w1 ⟨rfl, b1⟩
    go_wp2_with fail
    refine (CA.out _).mono ?_
    rintro e w1 ⟨rfl, rfl⟩
    go_wp2
    go_ret
    exact ⟨rfl, b1⟩

theorem plsOk_one (m : Nat) (q : Int) : plsOk m [q] = btw q 0 ((m : Int) - 1) := by unfold plsOk; simp

set_option maxHeartbeats 1000000 in
theorem placeFault_ok (a : Option Addr) (n ca : Nat) (xs : List T4) (q : Int) (w : World) (ha : RdTerm w a xs) (hn : xs.length = n) (hx : n ≤ maxLen) (hok : ∀ t ∈ xs, okT t) :
    Calls Try.prog 87 #[.slice a n ca, .int .i64 q] w fun e w' => e = .returned (.int .i64 (akC xs q)) ∧ Below w.heap.size w w' := by
  have CT := Hid.mk (implTermsFault_ok a n ca xs w ha hn hx hok)
  have CA := Hid.mk (fun w c d h => arePlaces_ok a n ca c 1 d [q] w h rfl hx (by unfold maxLen; omega))
  rw [plsOk_one] at CA
  have HW := ak_ways xs q
  rw [hn] at HW
  clear ha
  rcases HW with ⟨h1, hr⟩ | ⟨h1, h2, hr⟩ | ⟨h1, h2, hr⟩
  · rw [hr]
    have h3 : (tfC xs != 0) = true := by simp [h1]
    clear hr h1
    generalize tfC xs = kk at *
    go_enter Try.func87, Try.ntmps87
    go_wp2_with fail
    refine CT.out.mono ?_
    rintro e w1 ⟨rfl, b1⟩
    go_wp2
    go_ret
    exact ⟨rfl, b1⟩
  all_goals
    rw [hr]
    rw [h1] at CT
    rw [h2] at CA
    clear hr h1 h2
    go_enter Try.func87, Try.ntmps87
    go_wp2_with fail
    refine CT.out.mono ?_
    rintro e w1 ⟨rfl, b1⟩
    have hR := (OwnI.lit w1 [q] [.int .i64 q] rfl (by unfold maxLen; simp)).rd
    have b2 := thenB b1 (belowA w1 (.cells #[.int .i64 q] 2))
    go_wp2_with fail
    refine (CA.out _ _ _ hR).mono ?_
    rintro e wq ⟨rfl, rfl⟩
    go_wp2
    go_ret
    exact ⟨rfl, b2⟩

set_option maxRecDepth 20000 in
set_option maxHeartbeats 4000000 in
theorem specSizeOf_ok (a : Option Addr) (n ca : Nat) (xs : List T4) (q : Int) (w : World) (ha : RdTerm w a xs) (hn : xs.length = n) (hx : n ≤ maxLen) (hca : n ≤ ca) :
    Calls Try.prog 32 #[.slice a n ca, .int .i64 q] w fun e w' => e = .returned (.agg #[.int .i64 (akC xs q), .int .i64 (szV xs q)]) ∧ Below w.heap.size w w' := by
  have q1 := build_irc
  have q2 := build_irv
  have CA := Hid.mk (fun w h => l5Asked_ok a n ca xs q w h hn hx hca)
  rcases szV_ways xs q with ⟨h1, hr⟩ | ⟨h1, hr⟩
  · rw [hr]
    have h2 : (akC xs q != 0) = true := by simp [h1]
    clear hr h1
    generalize akC xs q = kk at *
    go_enter Try.func32, Try.ntmps32
    have B := Below.refl w.heap.size w
    replace ha := ha.kept (belowA w (.cells #[.int .i64 0, .int .i64 0] 47))
    replace B := thenB B (belowA w (.cells #[.int .i64 0, .int .i64 0] 47))
    have VR := V.new w [.int .i64 0, .int .i64 0] 47
    obtain ⟨s_VR, f_VR, z_VR⟩ := VR.open
    have Bo := B
    go_wp2_with fail
    refine (CA.out _ ha).mono ?_
    rintro e w1 ⟨rfl, b1⟩
    clear s_VR f_VR z_VR
    have S1 := b1.size
    simp only [World.size_alloc] at S1
    replace VR := VR.kept b1
    replace ha := ha.kept b1
    replace B := thenB B b1
    clear b1
    obtain ⟨s_VR, f_VR, z_VR⟩ := VR.open
    have Bo := B
    clear s_VR f_VR z_VR
    have VF := Hid.mk (VR.filled [.int .i64 kk, .int .i64 0] rfl)
    have HT := Hid.mk VR.there
    have BR := belowCells B (show w.heap.size ≤ w.heap.size by (first | omega | (simp; done) | (simp; omega))) 0 [.int .i64 kk, .int .i64 0]
    replace BR := Hid.mk BR
    obtain ⟨s_VR, f_VR, z_VR⟩ := VR.open
    go_wp2_with (refine wpList_store_mid rfl 47 _ _ rfl (w.heap.size) 0 #[.int .i64 kk, .int .i64 0] rfl rfl HT.out (by kernel_rfl) (by kernel_rfl) ?_)
    refine bodyPost_ret (v := .agg #[.int .i64 kk, .int .i64 0]) (results_row Try.results32 _ _ (w.heap.size) [.int .i64 kk, .int .i64 0] _ rfl VF.out Try.underlying47 rfl (by kernel_rfl)) rfl ⟨rfl, BR.out⟩
  · rw [hr, h1]
    rw [h1] at CA
    obtain ⟨hv, hq0, hq1⟩ := ak_zero h1
    obtain ⟨m, rfl⟩ : ∃ m : Nat, q = (m : Int) := ⟨q.toNat, by omega⟩
    rw [Int.toNat_natCast]
    have CS := Hid.mk (fun w h => l5Sizes_ok a n ca xs w h hn hv)
    have hzm := szL_at xs n m (by omega)
    have hzl := szL_len xs n
    obtain ⟨s, hs⟩ : ∃ s, (den xs m).sz = s := ⟨_, rfl⟩
    rw [hs] at hzm ⊢
    have hm1 : (m : Int) < (n : Int) := by omega
    replace hzm := Hid.mk hzm
    replace hzl := Hid.mk hzl
    clear hr h1 hs hq0 hq1 hv
    go_enter Try.func32, Try.ntmps32
    have B := Below.refl w.heap.size w
    replace ha := ha.kept (belowA w (.cells #[.int .i64 0, .int .i64 0] 47))
    replace B := thenB B (belowA w (.cells #[.int .i64 0, .int .i64 0] 47))
    have VR := V.new w [.int .i64 0, .int .i64 0] 47
    obtain ⟨s_VR, f_VR, z_VR⟩ := VR.open
    have Bo := B
    go_wp2_with fail
    refine (CA.out _ ha).mono ?_
    rintro e w21 ⟨rfl, b21⟩
    clear s_VR f_VR z_VR
    have S21 := b21.size
    simp only [World.size_alloc] at S21
    replace VR := VR.kept b21
    replace ha := ha.kept b21
    replace B := thenB B b21
    clear b21
    obtain ⟨s_VR, f_VR, z_VR⟩ := VR.open
    have Bo := B
    go_wp2_with fail
    refine (CS.out _ ha).mono ?_
    rintro e w22 ⟨c, d, rfl, O, b22⟩
    clear s_VR f_VR z_VR
    have S22 := b22.size
    replace VR := VR.kept b22
    replace ha := ha.kept b22
    replace B := thenB B b22
    clear b22
    obtain ⟨s_VR, f_VR, z_VR⟩ := VR.open
    have Bo := B
    rcases O.rd with h0 | ⟨b1, o1, rfl, hca2⟩
    · have := hzl.out; rw [h0] at this; simp at this; omega
    have p0 := hca2 m (by have := hzl.out; omega)
    rw [hzm.out] at p0
    clear hca2
    clear s_VR f_VR z_VR
    have VF := Hid.mk (VR.filled [.int .i64 0, .int .i64 s] rfl)
    have HT := Hid.mk VR.there
    have BR := belowCells B (show w.heap.size ≤ w.heap.size by (first | omega | (simp; done) | (simp; omega))) 0 [.int .i64 0, .int .i64 s]
    replace BR := Hid.mk BR
    obtain ⟨s_VR, f_VR, z_VR⟩ := VR.open
    go_wp2_with (refine wpList_store_mid rfl 47 _ _ rfl (w.heap.size) 0 #[.int .i64 0, .int .i64 s] rfl rfl HT.out (by kernel_rfl) (by kernel_rfl) ?_)
    refine bodyPost_ret (v := .agg #[.int .i64 0, .int .i64 s]) (results_row Try.results32 _ _ (w.heap.size) [.int .i64 0, .int .i64 s] _ rfl VF.out Try.underlying47 rfl (by kernel_rfl)) rfl ⟨rfl, BR.out⟩

end Go.Proofs.Ytdggihikkegjjaa
