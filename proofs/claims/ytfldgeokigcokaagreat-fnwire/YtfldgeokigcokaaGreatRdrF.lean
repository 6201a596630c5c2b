/- The reader's 'term', whole. -/
import Derived.Test.YtfldgeokigcokaaGreatRdrC
import Derived.Test.YtfldgeokigcokaaGreatRdrD
import Derived.Test.YtfldgeokigcokaaGreatRdrE
namespace Go.Proofs.YtfldgeokigcokaaGreat
open Go.RowKit

theorem rd1_nil (f : Nat) (xs : List T4) : rd1 f xs [] = none := by
  cases f with
  | zero => rfl
  | succ f => rfl

set_option maxRecDepth 20000 in
set_option maxHeartbeats 4000000 in
theorem term_nil (f base P pb g bx : Nat) (xs : List T4) (x : Option Addr) (m d : Nat) (c : Option Addr) (w : World) (R : Rdr w P (.pointer (some ⟨pb, 0, none⟩)) bx x m d []) :
    Calls Tryz.prog 42 #[.pointer (some ⟨P, 0, none⟩)] w (TermRead f xs [] base P pb g bx c w) := by
  have hm := R.len
  simp only [List.length_nil] at hm
  have CN := number_no P (.pointer (some ⟨pb, 0, none⟩)) bx x m d [] 1 w R (fun z hz => by simp at hz) (by omega)
  rw [show ((1 : Nat) : Int) = 1 from rfl] at CN
  replace CN := Hid.mk CN
  clear hm R
  unfold TermRead
  go_enter Tryz.func42, Tryz.ntmps42
  go_wp2_with fail
  refine CN.out.mono ?_
  rintro e w1 ⟨rfl, b1⟩
  exact ⟨rfl, Sm.below b1, .inl ⟨rd1_nil f xs, rfl⟩⟩

theorem term_ok (base P pb g bx : Nat) : ∀ f, TermOk f base P pb g bx := by
  intro f
  induction f with
  | zero =>
    intro xs ds x m d c dd w hl R hb H ht hP hbP hbx
    obtain rfl : ds = [] := List.eq_nil_of_length_eq_zero (by omega)
    exact term_nil 0 base P pb g bx xs x m d c w R
  | succ f ih =>
    intro xs ds x m d c dd w hl R hb H ht hP hbP hbx
    cases ds with
    | nil => exact term_nil (f + 1) base P pb g bx xs x m d c w R
    | cons o r =>
      by_cases ho : 1 ≤ o ∧ o ≤ 7
      · have h7 : o = 1 ∨ o = 2 ∨ o = 3 ∨ o = 4 ∨ o = 5 ∨ o = 6 ∨ o = 7 := by omega
        rcases h7 with rfl | rfl | rfl | rfl | rfl | rfl | rfl
        · exact term_leaf1 f base P pb g bx xs r x m d c dd w R hb H ht hP hbP hbx
        · exact term_leaf2 f base P pb g bx xs r x m d c dd w R hb H ht hP hbP hbx
        · exact term_two3 f base P pb g bx xs r x m d c dd w ih hl R hb H ht hP hbP hbx
        · exact term_two4 f base P pb g bx xs r x m d c dd w ih hl R hb H ht hP hbP hbx
        · exact term_two5 f base P pb g bx xs r x m d c dd w ih hl R hb H ht hP hbP hbx
        · exact term_half f base P pb g bx xs r x m d c dd w ih hl R hb H ht hP hbP hbx
        · exact term_two7 f base P pb g bx xs r x m d c dd w ih hl R hb H ht hP hbP hbx
      · exact term_other f base P pb g bx xs r o ho x m d c dd w R hb H ht hP hbP hbx

end Go.Proofs.YtfldgeokigcokaaGreat
