/- SizeOf of the model; the fault of a place (SizeOf of the program: RkA). -/
import Derived.Test.YthjaehcfakjemaaDoorTmV
namespace Go.Proofs.YthjaehcfakjemaaDoor
open Go.RowKit

set_option maxHeartbeats 1000000 in
theorem l5At_ok (a : Option Addr) (n ca : Nat) (q : Int) (w : World) (hx : n ≤ maxLen) :
    Calls Tryd.prog 27 #[.slice a n ca, .int .i64 q] w fun e w' => e = .returned (.bool (btw q 0 ((n : Int) - 1))) ∧ w' = w := by
  unfold maxLen at hx
  have CI := Hid.mk (l1In_ok q 0 ((n : Int) - 1))
  go_enter Tryd.func27, Tryd.ntmps27
  go_wp2_with fail
  refine (CI.out _).mono ?_
  rintro e wq ⟨rfl, rfl⟩
  go_wp2
  go_ret
  exact ⟨rfl, rfl⟩

set_option maxHeartbeats 1000000 in
theorem l5Asked_ok (a : Option Addr) (n ca : Nat) (xs : List T4) (q : Int) (w : World) (ha : RdTerm w a xs) (hn : xs.length = n) (hx : n ≤ maxLen) (hca : n ≤ ca) :
    Calls Tryd.prog 35 #[.slice a n ca, .int .i64 q] w fun e w' => e = .returned (.int .i64 (akC xs q)) ∧ Below w.heap.size w w' := by
  have CT := Hid.mk (specTermsFault_ok a n ca xs w ha hn hx hca)
  have CA := Hid.mk (fun w => l5At_ok a n ca q w hx)
  have HW := ak_ways xs q
  rw [hn] at HW
  clear ha
  rcases HW with ⟨h1, hr⟩ | ⟨h1, h2, hr⟩ | ⟨h1, h2, hr⟩
  · rw [hr]
    have h3 : (tfC xs != 0) = true := by simp [h1]
    clear hr h1
    generalize tfC xs = kk at *
    go_enter Tryd.func35, Tryd.ntmps35
    go_wp2_with fail
    refine CT.out.mono ?_
    rintro e w1 ⟨rfl, b1⟩
    go_wp2
    go_ret
    exact ⟨rfl, b1⟩
  all_goals
    rw [hr]
    rw [h1] at CT
    rw [h2] at CA
    clear hr h1 h2
    go_enter Tryd.func35, Tryd.ntmps35
    go_wp2_with fail
    refine CT.out.mono ?_
    rintro e w1 ⟨rfl, b1⟩
    go_wp2_with fail
    refine (CA.out _).mono ?_
    rintro e w1 ⟨rfl, rfl⟩
    go_wp2
    go_ret
    exact ⟨rfl, b1⟩

theorem plsOk_one (m : Nat) (q : Int) : plsOk m [q] = btw q 0 ((m : Int) - 1) := by unfold plsOk; simp

set_option maxHeartbeats 1000000 in
theorem placeFault_ok (a : Option Addr) (n ca : Nat) (xs : List T4) (q : Int) (w : World) (ha : RdTerm w a xs) (hn : xs.length = n) (hx : n ≤ maxLen) (hok : ∀ t ∈ xs, okT t) :
    Calls Tryd.prog 29 #[.slice a n ca, .int .i64 q] w fun e w' => e = .returned (.int .i64 (akC xs q)) ∧ Below w.heap.size w w' := by
  have CT := Hid.mk (implTermsFault_ok a n ca xs w ha hn hx hok)
  have CA := Hid.mk (fun w c d h => arePlaces_ok a n ca c 1 d [q] w h rfl hx (by unfold maxLen; omega))
  rw [plsOk_one] at CA
  have HW := ak_ways xs q
  rw [hn] at HW
  clear ha
  rcases HW with ⟨h1, hr⟩ | ⟨h1, h2, hr⟩ | ⟨h1, h2, hr⟩
  · rw [hr]
    have h3 : (tfC xs != 0) = true := by simp [h1]
    clear hr h1
    generalize tfC xs = kk at *
    go_enter Tryd.func29, Tryd.ntmps29
    go_wp2_with fail
    refine CT.out.mono ?_
    rintro e w1 ⟨rfl, b1⟩
    go_wp2
    go_ret
    exact ⟨rfl, b1⟩
  all_goals
    rw [hr]
    rw [h1] at CT
    rw [h2] at CA
    clear hr h1 h2
    go_enter Tryd.func29, Tryd.ntmps29
    go_wp2_with fail
    refine CT.out.mono ?_
    rintro e w1 ⟨rfl, b1⟩
    have hR := (OwnI.lit w1 [q] [.int .i64 q] rfl (by unfold maxLen; simp)).rd
    have b2 := thenB b1 (belowA w1 (.cells #[.int .i64 q] 2))
    go_wp2_with fail
    refine (CA.out _ _ _ hR).mono ?_
    rintro e wq ⟨rfl, rfl⟩
    go_wp2
    go_ret
    exact ⟨rfl, b2⟩

end Go.Proofs.YthjaehcfakjemaaDoor
