/- Rules change places: the program. -/
import Derived.Test.YtngkahchhioncaaDoorPolG
import Derived.Test.YtngkahchhioncaaDoorPolD
import Derived.Test.YtngkahchhioncaaDoorMtB
import Derived.WalkSpells
import Derived.Lib.SliceRun
namespace Go.Proofs.YtngkahchhioncaaDoor
open Go.RowKit

/-- Two rules may change places. -/
@[irreducible] def mcB (x y : R11) : Bool := (mtC x.s y.s != 0) || ((x.p == y.p) && (x.q == y.q))

theorem mc_ways (x y : R11) :
    ((mtC x.s y.s != 0) = true ∧ mcB x y = true) ∨
    (mtC x.s y.s = 0 ∧ (x.p == y.p) = false ∧ mcB x y = false) ∨
    (mtC x.s y.s = 0 ∧ (x.p == y.p) = true ∧ (x.q == y.q) = false ∧ mcB x y = false) ∨
    (mtC x.s y.s = 0 ∧ (x.p == y.p) = true ∧ (x.q == y.q) = true ∧ mcB x y = true) := by
  unfold mcB
  by_cases h : mtC x.s y.s = 0
  · simp only [h]
    cases (x.p == y.p) <;> cases (x.q == y.q) <;> simp
  · left; simp [h]

theorem sw_ways2 (xs : List R11) (t : Int) :
    ((pyC xs != 0) = true ∧ swC xs t = pyC xs ∧ swL xs t = []) ∨
    (pyC xs = 0 ∧ btw t 0 ((xs.length : Int) - 2) = false ∧ swC xs t = 3 ∧ swL xs t = []) ∨
    ∃ (k : Nat) (x y : R11), t = (k : Int) ∧ k + 1 < xs.length ∧ pyC xs = 0 ∧ btw t 0 ((xs.length : Int) - 2) = true ∧ xs.getD k zRule = x ∧ xs.getD (k + 1) zRule = y ∧
      ((mcB x y = false ∧ swC xs t = 1 ∧ swL xs t = []) ∨ (mcB x y = true ∧ swC xs t = 0 ∧ swL xs t = (xs.set k y).set (k + 1) x)) := by
  rcases sw_ways xs t with ⟨h1, _, e1, e2⟩ | ⟨h1, h2, e1, e2⟩ | ⟨k, rfl, hk, h1, h2, hw⟩
  · exact .inl ⟨h1, e1, e2⟩
  · exact .inr (.inl ⟨h1, h2, e1, e2⟩)
  · refine .inr (.inr ⟨k, _, _, rfl, hk, h1, h2, rfl, rfl, ?_⟩)
    generalize xs.getD k zRule = x at *
    generalize xs.getD (k + 1) zRule = y at *
    rcases mc_ways x y with ⟨m1, m2⟩ | ⟨m1, m3, m2⟩ | ⟨m1, m3, m4, m2⟩ | ⟨m1, m3, m4, m2⟩
    · rcases hw with ⟨h5, _⟩ | ⟨h5, _⟩ | ⟨h5, _⟩ | ⟨_, e1, e2⟩
      · rw [h5] at m1; simp at m1
      · rw [h5] at m1; simp at m1
      · rw [h5] at m1; simp at m1
      · exact .inr ⟨m2, e1, e2⟩
    · rcases hw with ⟨_, h6, e1, e2⟩ | ⟨_, h6, _⟩ | ⟨_, h6, _⟩ | ⟨h5, _⟩
      · exact .inl ⟨m2, e1, e2⟩
      · rw [bne, m3] at h6; cases h6
      · rw [bne, m3] at h6; cases h6
      · rw [m1] at h5; simp at h5
    · rcases hw with ⟨_, h6, _⟩ | ⟨_, _, h7, e1, e2⟩ | ⟨_, _, h7, _⟩ | ⟨h5, _⟩
      · rw [bne, m3] at h6; cases h6
      · exact .inl ⟨m2, e1, e2⟩
      · rw [bne, m4] at h7; cases h7
      · rw [m1] at h5; simp at h5
    · rcases hw with ⟨_, h6, _⟩ | ⟨_, _, h7, _⟩ | ⟨_, _, _, e1, e2⟩ | ⟨h5, _⟩
      · rw [bne, m3] at h6; cases h6
      · rw [bne, m4] at h7; cases h7
      · exact .inr ⟨m2, e1, e2⟩
      · rw [m1] at h5; simp at h5

set_option maxRecDepth 20000 in
set_option maxHeartbeats 4000000 in
theorem mayChange_ok (x y : R11) (w : World) :
    Calls Tryd.prog 71 #[.agg #[.int .i64 x.s.a, .int .i64 x.s.b, .int .i64 x.s.c, .int .i64 x.s.d, .int .i64 x.s.e, .int .i64 x.s.f, .int .i64 x.s.g, .int .i64 x.s.h, .int .i64 x.s.r, .int .i64 x.p, .int .i64 x.q], .agg #[.int .i64 y.s.a, .int .i64 y.s.b, .int .i64 y.s.c, .int .i64 y.s.d, .int .i64 y.s.e, .int .i64 y.s.f, .int .i64 y.s.g, .int .i64 y.s.h, .int .i64 y.s.r, .int .i64 y.p, .int .i64 y.q]] w fun e w' => e = .returned (.bool (mcB x y)) ∧ Below w.heap.size w w' := by
  have CM := Hid.mk (fun w => implMeetSels_ok x.s y.s w)
  have q2 := fieldMeet
  have hw := mc_ways x y
  generalize mcB x y = r at *
  generalize mtC x.s y.s = mm at *
  generalize mtS x.s y.s = z at *
  rcases hw with ⟨m1, rfl⟩ | ⟨rfl, m3, rfl⟩ | ⟨rfl, m3, m4, rfl⟩ | ⟨rfl, m3, m4, rfl⟩
  · skip
    go_enter Tryd.func71, Tryd.ntmps71
    have B := Below.refl w.heap.size w
    replace B := thenB B (belowA w (.cells #[.int .i64 x.s.a, .int .i64 x.s.b, .int .i64 x.s.c, .int .i64 x.s.d, .int .i64 x.s.e, .int .i64 x.s.f, .int .i64 x.s.g, .int .i64 x.s.h, .int .i64 x.s.r, .int .i64 x.p, .int .i64 x.q] 34))
    have VX := V.new w [.int .i64 x.s.a, .int .i64 x.s.b, .int .i64 x.s.c, .int .i64 x.s.d, .int .i64 x.s.e, .int .i64 x.s.f, .int .i64 x.s.g, .int .i64 x.s.h, .int .i64 x.s.r, .int .i64 x.p, .int .i64 x.q] 34
    replace VX := VX.kept (belowA (w.alloc (.cells #[.int .i64 x.s.a, .int .i64 x.s.b, .int .i64 x.s.c, .int .i64 x.s.d, .int .i64 x.s.e, .int .i64 x.s.f, .int .i64 x.s.g, .int .i64 x.s.h, .int .i64 x.s.r, .int .i64 x.p, .int .i64 x.q] 34)) (.cells #[.int .i64 y.s.a, .int .i64 y.s.b, .int .i64 y.s.c, .int .i64 y.s.d, .int .i64 y.s.e, .int .i64 y.s.f, .int .i64 y.s.g, .int .i64 y.s.h, .int .i64 y.s.r, .int .i64 y.p, .int .i64 y.q] 34))
    replace B := thenB B (belowA (w.alloc (.cells #[.int .i64 x.s.a, .int .i64 x.s.b, .int .i64 x.s.c, .int .i64 x.s.d, .int .i64 x.s.e, .int .i64 x.s.f, .int .i64 x.s.g, .int .i64 x.s.h, .int .i64 x.s.r, .int .i64 x.p, .int .i64 x.q] 34)) (.cells #[.int .i64 y.s.a, .int .i64 y.s.b, .int .i64 y.s.c, .int .i64 y.s.d, .int .i64 y.s.e, .int .i64 y.s.f, .int .i64 y.s.g, .int .i64 y.s.h, .int .i64 y.s.r, .int .i64 y.p, .int .i64 y.q] 34))
    have VY : V ((w.alloc (.cells #[.int .i64 x.s.a, .int .i64 x.s.b, .int .i64 x.s.c, .int .i64 x.s.d, .int .i64 x.s.e, .int .i64 x.s.f, .int .i64 x.s.g, .int .i64 x.s.h, .int .i64 x.s.r, .int .i64 x.p, .int .i64 x.q] 34)).alloc (.cells #[.int .i64 y.s.a, .int .i64 y.s.b, .int .i64 y.s.c, .int .i64 y.s.d, .int .i64 y.s.e, .int .i64 y.s.f, .int .i64 y.s.g, .int .i64 y.s.h, .int .i64 y.s.r, .int .i64 y.p, .int .i64 y.q] 34)) (w.heap.size + 1) [.int .i64 y.s.a, .int .i64 y.s.b, .int .i64 y.s.c, .int .i64 y.s.d, .int .i64 y.s.e, .int .i64 y.s.f, .int .i64 y.s.g, .int .i64 y.s.h, .int .i64 y.s.r, .int .i64 y.p, .int .i64 y.q] := V.newAt _ _ _ _ (by simp)
    obtain ⟨s_VX, f_VX, z_VX⟩ := VX.open
    obtain ⟨s_VY, f_VY, z_VY⟩ := VY.open
    have Bo := B
    go_wp2_with fail
    refine (CM.out _).mono ?_
    rintro e w1 ⟨rfl, b1⟩
    clear s_VX f_VX z_VX s_VY f_VY z_VY
    have S1 := b1.size
    simp only [World.size_alloc] at S1
    replace VX := VX.kept b1
    replace VY := VY.kept b1
    replace B := thenB B b1
    clear b1
    obtain ⟨s_VX, f_VX, z_VX⟩ := VX.open
    obtain ⟨s_VY, f_VY, z_VY⟩ := VY.open
    have Bo := B
    go_wp2
    go_ret
    exact ⟨rfl, B⟩
  · skip
    go_enter Tryd.func71, Tryd.ntmps71
    have B := Below.refl w.heap.size w
    replace B := thenB B (belowA w (.cells #[.int .i64 x.s.a, .int .i64 x.s.b, .int .i64 x.s.c, .int .i64 x.s.d, .int .i64 x.s.e, .int .i64 x.s.f, .int .i64 x.s.g, .int .i64 x.s.h, .int .i64 x.s.r, .int .i64 x.p, .int .i64 x.q] 34))
    have VX := V.new w [.int .i64 x.s.a, .int .i64 x.s.b, .int .i64 x.s.c, .int .i64 x.s.d, .int .i64 x.s.e, .int .i64 x.s.f, .int .i64 x.s.g, .int .i64 x.s.h, .int .i64 x.s.r, .int .i64 x.p, .int .i64 x.q] 34
    replace VX := VX.kept (belowA (w.alloc (.cells #[.int .i64 x.s.a, .int .i64 x.s.b, .int .i64 x.s.c, .int .i64 x.s.d, .int .i64 x.s.e, .int .i64 x.s.f, .int .i64 x.s.g, .int .i64 x.s.h, .int .i64 x.s.r, .int .i64 x.p, .int .i64 x.q] 34)) (.cells #[.int .i64 y.s.a, .int .i64 y.s.b, .int .i64 y.s.c, .int .i64 y.s.d, .int .i64 y.s.e, .int .i64 y.s.f, .int .i64 y.s.g, .int .i64 y.s.h, .int .i64 y.s.r, .int .i64 y.p, .int .i64 y.q] 34))
    replace B := thenB B (belowA (w.alloc (.cells #[.int .i64 x.s.a, .int .i64 x.s.b, .int .i64 x.s.c, .int .i64 x.s.d, .int .i64 x.s.e, .int .i64 x.s.f, .int .i64 x.s.g, .int .i64 x.s.h, .int .i64 x.s.r, .int .i64 x.p, .int .i64 x.q] 34)) (.cells #[.int .i64 y.s.a, .int .i64 y.s.b, .int .i64 y.s.c, .int .i64 y.s.d, .int .i64 y.s.e, .int .i64 y.s.f, .int .i64 y.s.g, .int .i64 y.s.h, .int .i64 y.s.r, .int .i64 y.p, .int .i64 y.q] 34))
    have VY : V ((w.alloc (.cells #[.int .i64 x.s.a, .int .i64 x.s.b, .int .i64 x.s.c, .int .i64 x.s.d, .int .i64 x.s.e, .int .i64 x.s.f, .int .i64 x.s.g, .int .i64 x.s.h, .int .i64 x.s.r, .int .i64 x.p, .int .i64 x.q] 34)).alloc (.cells #[.int .i64 y.s.a, .int .i64 y.s.b, .int .i64 y.s.c, .int .i64 y.s.d, .int .i64 y.s.e, .int .i64 y.s.f, .int .i64 y.s.g, .int .i64 y.s.h, .int .i64 y.s.r, .int .i64 y.p, .int .i64 y.q] 34)) (w.heap.size + 1) [.int .i64 y.s.a, .int .i64 y.s.b, .int .i64 y.s.c, .int .i64 y.s.d, .int .i64 y.s.e, .int .i64 y.s.f, .int .i64 y.s.g, .int .i64 y.s.h, .int .i64 y.s.r, .int .i64 y.p, .int .i64 y.q] := V.newAt _ _ _ _ (by simp)
    obtain ⟨s_VX, f_VX, z_VX⟩ := VX.open
    obtain ⟨s_VY, f_VY, z_VY⟩ := VY.open
    have Bo := B
    go_wp2_with fail
    refine (CM.out _).mono ?_
    rintro e w11 ⟨rfl, b11⟩
    clear s_VX f_VX z_VX s_VY f_VY z_VY
    have S11 := b11.size
    simp only [World.size_alloc] at S11
    replace VX := VX.kept b11
    replace VY := VY.kept b11
    replace B := thenB B b11
    clear b11
    obtain ⟨s_VX, f_VX, z_VX⟩ := VX.open
    obtain ⟨s_VY, f_VY, z_VY⟩ := VY.open
    have Bo := B
    go_wp2
    go_ret
    exact ⟨rfl, B⟩
  · skip
    go_enter Tryd.func71, Tryd.ntmps71
    have B := Below.refl w.heap.size w
    replace B := thenB B (belowA w (.cells #[.int .i64 x.s.a, .int .i64 x.s.b, .int .i64 x.s.c, .int .i64 x.s.d, .int .i64 x.s.e, .int .i64 x.s.f, .int .i64 x.s.g, .int .i64 x.s.h, .int .i64 x.s.r, .int .i64 x.p, .int .i64 x.q] 34))
    have VX := V.new w [.int .i64 x.s.a, .int .i64 x.s.b, .int .i64 x.s.c, .int .i64 x.s.d, .int .i64 x.s.e, .int .i64 x.s.f, .int .i64 x.s.g, .int .i64 x.s.h, .int .i64 x.s.r, .int .i64 x.p, .int .i64 x.q] 34
    replace VX := VX.kept (belowA (w.alloc (.cells #[.int .i64 x.s.a, .int .i64 x.s.b, .int .i64 x.s.c, .int .i64 x.s.d, .int .i64 x.s.e, .int .i64 x.s.f, .int .i64 x.s.g, .int .i64 x.s.h, .int .i64 x.s.r, .int .i64 x.p, .int .i64 x.q] 34)) (.cells #[.int .i64 y.s.a, .int .i64 y.s.b, .int .i64 y.s.c, .int .i64 y.s.d, .int .i64 y.s.e, .int .i64 y.s.f, .int .i64 y.s.g, .int .i64 y.s.h, .int .i64 y.s.r, .int .i64 y.p, .int .i64 y.q] 34))
    replace B := thenB B (belowA (w.alloc (.cells #[.int .i64 x.s.a, .int .i64 x.s.b, .int .i64 x.s.c, .int .i64 x.s.d, .int .i64 x.s.e, .int .i64 x.s.f, .int .i64 x.s.g, .int .i64 x.s.h, .int .i64 x.s.r, .int .i64 x.p, .int .i64 x.q] 34)) (.cells #[.int .i64 y.s.a, .int .i64 y.s.b, .int .i64 y.s.c, .int .i64 y.s.d, .int .i64 y.s.e, .int .i64 y.s.f, .int .i64 y.s.g, .int .i64 y.s.h, .int .i64 y.s.r, .int .i64 y.p, .int .i64 y.q] 34))
    have VY : V ((w.alloc (.cells #[.int .i64 x.s.a, .int .i64 x.s.b, .int .i64 x.s.c, .int .i64 x.s.d, .int .i64 x.s.e, .int .i64 x.s.f, .int .i64 x.s.g, .int .i64 x.s.h, .int .i64 x.s.r, .int .i64 x.p, .int .i64 x.q] 34)).alloc (.cells #[.int .i64 y.s.a, .int .i64 y.s.b, .int .i64 y.s.c, .int .i64 y.s.d, .int .i64 y.s.e, .int .i64 y.s.f, .int .i64 y.s.g, .int .i64 y.s.h, .int .i64 y.s.r, .int .i64 y.p, .int .i64 y.q] 34)) (w.heap.size + 1) [.int .i64 y.s.a, .int .i64 y.s.b, .int .i64 y.s.c, .int .i64 y.s.d, .int .i64 y.s.e, .int .i64 y.s.f, .int .i64 y.s.g, .int .i64 y.s.h, .int .i64 y.s.r, .int .i64 y.p, .int .i64 y.q] := V.newAt _ _ _ _ (by simp)
    obtain ⟨s_VX, f_VX, z_VX⟩ := VX.open
    obtain ⟨s_VY, f_VY, z_VY⟩ := VY.open
    have Bo := B
    go_wp2_with fail
    refine (CM.out _).mono ?_
    rintro e w21 ⟨rfl, b21⟩
    clear s_VX f_VX z_VX s_VY f_VY z_VY
    have S21 := b21.size
    simp only [World.size_alloc] at S21
    replace VX := VX.kept b21
    replace VY := VY.kept b21
    replace B := thenB B b21
    clear b21
    obtain ⟨s_VX, f_VX, z_VX⟩ := VX.open
    obtain ⟨s_VY, f_VY, z_VY⟩ := VY.open
    have Bo := B
    go_wp2
    go_ret
    exact ⟨rfl, B⟩
  · skip
    go_enter Tryd.func71, Tryd.ntmps71
    have B := Below.refl w.heap.size w
    replace B := thenB B (belowA w (.cells #[.int .i64 x.s.a, .int .i64 x.s.b, .int .i64 x.s.c, .int .i64 x.s.d, .int .i64 x.s.e, .int .i64 x.s.f, .int .i64 x.s.g, .int .i64 x.s.h, .int .i64 x.s.r, .int .i64 x.p, .int .i64 x.q] 34))
    have VX := V.new w [.int .i64 x.s.a, .int .i64 x.s.b, .int .i64 x.s.c, .int .i64 x.s.d, .int .i64 x.s.e, .int .i64 x.s.f, .int .i64 x.s.g, .int .i64 x.s.h, .int .i64 x.s.r, .int .i64 x.p, .int .i64 x.q] 34
    replace VX := VX.kept (belowA (w.alloc (.cells #[.int .i64 x.s.a, .int .i64 x.s.b, .int .i64 x.s.c, .int .i64 x.s.d, .int .i64 x.s.e, .int .i64 x.s.f, .int .i64 x.s.g, .int .i64 x.s.h, .int .i64 x.s.r, .int .i64 x.p, .int .i64 x.q] 34)) (.cells #[.int .i64 y.s.a, .int .i64 y.s.b, .int .i64 y.s.c, .int .i64 y.s.d, .int .i64 y.s.e, .int .i64 y.s.f, .int .i64 y.s.g, .int .i64 y.s.h, .int .i64 y.s.r, .int .i64 y.p, .int .i64 y.q] 34))
    replace B := thenB B (belowA (w.alloc (.cells #[.int .i64 x.s.a, .int .i64 x.s.b, .int .i64 x.s.c, .int .i64 x.s.d, .int .i64 x.s.e, .int .i64 x.s.f, .int .i64 x.s.g, .int .i64 x.s.h, .int .i64 x.s.r, .int .i64 x.p, .int .i64 x.q] 34)) (.cells #[.int .i64 y.s.a, .int .i64 y.s.b, .int .i64 y.s.c, .int .i64 y.s.d, .int .i64 y.s.e, .int .i64 y.s.f, .int .i64 y.s.g, .int .i64 y.s.h, .int .i64 y.s.r, .int .i64 y.p, .int .i64 y.q] 34))
    have VY : V ((w.alloc (.cells #[.int .i64 x.s.a, .int .i64 x.s.b, .int .i64 x.s.c, .int .i64 x.s.d, .int .i64 x.s.e, .int .i64 x.s.f, .int .i64 x.s.g, .int .i64 x.s.h, .int .i64 x.s.r, .int .i64 x.p, .int .i64 x.q] 34)).alloc (.cells #[.int .i64 y.s.a, .int .i64 y.s.b, .int .i64 y.s.c, .int .i64 y.s.d, .int .i64 y.s.e, .int .i64 y.s.f, .int .i64 y.s.g, .int .i64 y.s.h, .int .i64 y.s.r, .int .i64 y.p, .int .i64 y.q] 34)) (w.heap.size + 1) [.int .i64 y.s.a, .int .i64 y.s.b, .int .i64 y.s.c, .int .i64 y.s.d, .int .i64 y.s.e, .int .i64 y.s.f, .int .i64 y.s.g, .int .i64 y.s.h, .int .i64 y.s.r, .int .i64 y.p, .int .i64 y.q] := V.newAt _ _ _ _ (by simp)
    obtain ⟨s_VX, f_VX, z_VX⟩ := VX.open
    obtain ⟨s_VY, f_VY, z_VY⟩ := VY.open
    have Bo := B
    go_wp2_with fail
    refine (CM.out _).mono ?_
    rintro e w31 ⟨rfl, b31⟩
    clear s_VX f_VX z_VX s_VY f_VY z_VY
    have S31 := b31.size
    simp only [World.size_alloc] at S31
    replace VX := VX.kept b31
    replace VY := VY.kept b31
    replace B := thenB B b31
    clear b31
    obtain ⟨s_VX, f_VX, z_VX⟩ := VX.open
    obtain ⟨s_VY, f_VY, z_VY⟩ := VY.open
    have Bo := B
    go_wp2
    go_ret
    exact ⟨rfl, B⟩

set_option maxRecDepth 20000 in
set_option maxHeartbeats 4000000 in
theorem cloneRules_ok (b off n ca : Nat) (xs : List R11) (w : World) (ha : RdRule w (some ⟨b, off, none⟩) xs) (hn : xs.length = n) (h0 : 0 < n) (hx : n ≤ 20) :
    Calls Tryd.prog 72 #[.slice (some ⟨b, off, none⟩) n ca] w fun e w' => ∃ (c d : Nat), e = .returned (.slice (some ⟨c, 0, none⟩) n d) ∧ OwnRule w' w.heap.size (some ⟨c, 0, none⟩) d xs ∧ Below w.heap.size w w' := by
  have qF : ∀ w : World, (binOp .eql 24 (.slice (some ⟨b, off, none⟩) n ca) (.slice none 0 0)).run Tryd.prog w = .ok (.bool false) w := fun w => Lib.run_eql_slice_nil w _ _ _ _ _ _ _ Tryd.underlying24
  have OL := OwnRule.lit w [] [] rfl (by decide)
  have B := belowA w (.cells #[] 34)
  have hb := ha.kept B
  go_enter Tryd.func72, Tryd.ntmps72
  go_wp2_with (at_builtin; go_loud (refine wpList_putsRule _ rfl _ _ rfl w.heap.size (some ⟨w.heap.size, 0, none⟩) 0 [] 0 rfl rfl OL b off n ca xs rfl hb hn h0 (by omega) (by simp) ?_))
  intro c4 d4 w4 O4 hg4 hx4
  obtain ⟨c5, rfl, hc5, hc6⟩ := hx4.out
  have B4 := Hid.mk (belowG (c := some ⟨w.heap.size, 0, none⟩) B hg4 (by simp) (fun b hb => by simp only [Option.some.injEq] at hb; subst hb; exact Nat.le_refl _))
  replace O4 := Hid.mk O4
  clear hg4 hx4 hc5 hb OL B
  go_wp2
  go_ret
  exact ⟨c5, d4, by simp, O4.out, B4.out⟩

set_option maxRecDepth 20000 in
set_option maxHeartbeats 8000000 in
theorem implSwapRules_ok (a : Option Addr) (n ca : Nat) (xs : List R11) (t : Int) (w : World) (ha : RdRule w a xs) (hn : xs.length = n) (hx : n ≤ maxLen) (ht : -9223372036854775808 ≤ t ∧ t ≤ 9223372036854775807) :
    Calls Tryd.prog 22 #[.slice a n ca, .int .i64 t] w fun e w' => ∃ (c : Option Addr) (d k : Nat), e = .returned (.agg #[.int .i64 (swC xs t), .slice c k d]) ∧ (swL xs t).length = k ∧ OwnRule w' w.heap.size c d (swL xs t) ∧ Below w.heap.size w w' := by
  have CP := Hid.mk (fun w h => implPolicyFault_ok a n ca xs w h hn hx)
  have q0 := build_rs0
  have q1 := build_rs1
  obtain ⟨t1, t2⟩ := ht
  unfold maxLen at hx
  rcases sw_ways2 xs t with ⟨h1, e1, e2⟩ | ⟨h1, h2, e1, e2⟩ | ⟨k, x, y, rfl, hk, h1, h2, hxx, hyy, hw⟩
  · rw [e1, e2]
    clear e1 e2
    generalize pyC xs = kk at *
    go_enter Tryd.func22, Tryd.ntmps22
    have B := Below.refl w.heap.size w
    replace ha := ha.kept (belowA w (.cells #[.int .i64 0, .slice none 0 0] 45))
    replace B := thenB B (belowA w (.cells #[.int .i64 0, .slice none 0 0] 45))
    have VR := V.new w [.int .i64 0, .slice none 0 0] 45
    obtain ⟨s_VR, f_VR, z_VR⟩ := VR.open
    have Bo := B
    go_wp2_with fail
    refine (CP.out _ ha).mono ?_
    rintro e w1 ⟨rfl, b1⟩
    clear s_VR f_VR z_VR
    have S1 := b1.size
    simp only [World.size_alloc] at S1
    replace VR := VR.kept b1
    replace ha := ha.kept b1
    replace B := thenB B b1
    clear b1
    obtain ⟨s_VR, f_VR, z_VR⟩ := VR.open
    have Bo := B
    clear s_VR f_VR z_VR
    have VF := Hid.mk (VR.filled [.int .i64 kk, .slice none 0 0] rfl)
    have BR := belowCells B (show w.heap.size ≤ w.heap.size by (first | omega | (simp; done) | (simp; omega))) 0 [.int .i64 kk, .slice none 0 0]
    have HT := Hid.mk VR.there
    replace BR := Hid.mk BR
    obtain ⟨s_VR, f_VR, z_VR⟩ := VR.open
    go_wp2_with (refine wpList_store_mid rfl 45 _ _ rfl (w.heap.size) 0 #[.int .i64 kk, .slice none 0 0] rfl rfl HT.out (by kernel_rfl) (by kernel_rfl) ?_)
    refine bodyPost_ret (v := .agg #[.int .i64 kk, .slice none 0 0]) (results_row Tryd.results22 _ _ (w.heap.size) [.int .i64 kk, .slice none 0 0] _ rfl VF.out Tryd.underlying45 rfl (by kernel_rfl)) rfl ⟨none, 0, 0, rfl, rfl, OwnRule.none, BR.out⟩
  · rw [e1, e2]
    clear e1 e2
    have hx20 := (pyC_zero h1).1
    rw [h1] at CP
    rw [hn] at h2
    go_enter Tryd.func22, Tryd.ntmps22
    have B := Below.refl w.heap.size w
    replace ha := ha.kept (belowA w (.cells #[.int .i64 0, .slice none 0 0] 45))
    replace B := thenB B (belowA w (.cells #[.int .i64 0, .slice none 0 0] 45))
    have VR := V.new w [.int .i64 0, .slice none 0 0] 45
    obtain ⟨s_VR, f_VR, z_VR⟩ := VR.open
    have Bo := B
    go_wp2_with fail
    refine (CP.out _ ha).mono ?_
    rintro e w6 ⟨rfl, b6⟩
    clear s_VR f_VR z_VR
    have S6 := b6.size
    simp only [World.size_alloc] at S6
    replace VR := VR.kept b6
    replace ha := ha.kept b6
    replace B := thenB B b6
    clear b6
    obtain ⟨s_VR, f_VR, z_VR⟩ := VR.open
    have Bo := B
    go_wp2_with fail
    refine (isBetween_ok _ _ _ _).mono ?_
    rintro e wq ⟨rfl, rfl⟩
    rw [h2]
    clear s_VR f_VR z_VR
    have VF := Hid.mk (VR.filled [.int .i64 3, .slice none 0 0] rfl)
    have BR := belowCells B (show w.heap.size ≤ w.heap.size by (first | omega | (simp; done) | (simp; omega))) 0 [.int .i64 3, .slice none 0 0]
    have HT := Hid.mk VR.there
    replace BR := Hid.mk BR
    obtain ⟨s_VR, f_VR, z_VR⟩ := VR.open
    go_wp2_with (refine wpList_store_mid rfl 45 _ _ rfl (w.heap.size) 0 #[.int .i64 3, .slice none 0 0] rfl rfl HT.out (by kernel_rfl) (by kernel_rfl) ?_)
    refine bodyPost_ret (v := .agg #[.int .i64 3, .slice none 0 0]) (results_row Tryd.results22 _ _ (w.heap.size) [.int .i64 3, .slice none 0 0] _ rfl VF.out Tryd.underlying45 rfl (by kernel_rfl)) rfl ⟨none, 0, 0, rfl, rfl, OwnRule.none, BR.out⟩
  · have hx20 := (pyC_zero h1).1
    rw [h1] at CP
    rw [hn] at h2
    obtain ⟨C, hC⟩ : ∃ C, swC xs (k : Int) = C := ⟨_, rfl⟩
    obtain ⟨Lz, hL⟩ : ∃ Lz, swL xs (k : Int) = Lz := ⟨_, rfl⟩
    rw [hC, hL] at hw ⊢
    clear hC hL
    have CM := Hid.mk (fun w => mayChange_ok x y w)
    generalize mcB x y = r at *
    have hk1 : (k : Int) < (n : Int) := by omega
    have hk2 : (k : Int) + 1 < (n : Int) := by omega
    have hk3 : (k : Int) + 1 ≤ 30 := by omega
    have hn0 : 0 < n := by omega
    have hk0 : (0 : Int) ≤ (k : Int) + 1 := by omega
    have hwr : IntKind.i64.wrap ((k : Int) + 1) = (k : Int) + 1 := by rw [IntKind.wrap_i64]; omega
    go_enter Tryd.func22, Tryd.ntmps22
    have B := Below.refl w.heap.size w
    replace ha := ha.kept (belowA w (.cells #[.int .i64 0, .slice none 0 0] 45))
    replace B := thenB B (belowA w (.cells #[.int .i64 0, .slice none 0 0] 45))
    have VR := V.new w [.int .i64 0, .slice none 0 0] 45
    obtain ⟨s_VR, f_VR, z_VR⟩ := VR.open
    have Bo := B
    go_wp2_with fail
    refine (CP.out _ ha).mono ?_
    rintro e w11 ⟨rfl, b11⟩
    clear s_VR f_VR z_VR
    have S11 := b11.size
    simp only [World.size_alloc] at S11
    replace VR := VR.kept b11
    replace ha := ha.kept b11
    replace B := thenB B b11
    clear b11
    obtain ⟨s_VR, f_VR, z_VR⟩ := VR.open
    have Bo := B
    go_wp2_with fail
    refine (isBetween_ok _ _ _ _).mono ?_
    rintro e wq ⟨rfl, rfl⟩
    rw [h2]
    clear s_VR f_VR z_VR
    rcases ha with h0 | ⟨b1, o1, rfl, hca⟩
    · rw [h0] at hn; simp at hn; omega
    obtain ⟨p0, p1, p2, p3, p4, p5, p6, p7, p8, p9, p10⟩ := RdRule.cells hca k (by omega) x hxx
    obtain ⟨r0, r1, r2, r3, r4, r5, r6, r7, r8, r9, r10⟩ := RdRule.cells hca (k + 1) (by omega) y hyy
    have hb1 := World.block_lt_of_cell? (a := ⟨b1, o1 + k * 11, none⟩) _ p0
    simp only at hb1
    have ha : RdRule wq (some ⟨b1, o1, none⟩) xs := .inr ⟨b1, o1, rfl, hca⟩
    clear hca
    generalize hK1 : o1 + k * 11 = K1 at *
    generalize hK2 : o1 + (k + 1) * 11 = K2 at *
    have HA := Hid.mk ha
    have K : ∀ w' : World, Below wq.heap.size wq w' → (w'.cell? ⟨b1, K1, none⟩ = some (.int .i64 x.s.a) ∧ w'.cell? ⟨b1, K1 + 1, none⟩ = some (.int .i64 x.s.b) ∧ w'.cell? ⟨b1, K1 + 2, none⟩ = some (.int .i64 x.s.c) ∧ w'.cell? ⟨b1, K1 + 3, none⟩ = some (.int .i64 x.s.d) ∧ w'.cell? ⟨b1, K1 + 4, none⟩ = some (.int .i64 x.s.e) ∧ w'.cell? ⟨b1, K1 + 5, none⟩ = some (.int .i64 x.s.f) ∧ w'.cell? ⟨b1, K1 + 6, none⟩ = some (.int .i64 x.s.g) ∧ w'.cell? ⟨b1, K1 + 7, none⟩ = some (.int .i64 x.s.h) ∧ w'.cell? ⟨b1, K1 + 8, none⟩ = some (.int .i64 x.s.r) ∧ w'.cell? ⟨b1, K1 + 9, none⟩ = some (.int .i64 x.p) ∧ w'.cell? ⟨b1, K1 + 10, none⟩ = some (.int .i64 x.q) ∧ w'.cell? ⟨b1, K2, none⟩ = some (.int .i64 y.s.a) ∧ w'.cell? ⟨b1, K2 + 1, none⟩ = some (.int .i64 y.s.b) ∧ w'.cell? ⟨b1, K2 + 2, none⟩ = some (.int .i64 y.s.c) ∧ w'.cell? ⟨b1, K2 + 3, none⟩ = some (.int .i64 y.s.d) ∧ w'.cell? ⟨b1, K2 + 4, none⟩ = some (.int .i64 y.s.e) ∧ w'.cell? ⟨b1, K2 + 5, none⟩ = some (.int .i64 y.s.f) ∧ w'.cell? ⟨b1, K2 + 6, none⟩ = some (.int .i64 y.s.g) ∧ w'.cell? ⟨b1, K2 + 7, none⟩ = some (.int .i64 y.s.h) ∧ w'.cell? ⟨b1, K2 + 8, none⟩ = some (.int .i64 y.s.r) ∧ w'.cell? ⟨b1, K2 + 9, none⟩ = some (.int .i64 y.p) ∧ w'.cell? ⟨b1, K2 + 10, none⟩ = some (.int .i64 y.q)) := fun w' h => ⟨((bcell h).1 _ _ hb1).trans p0, ((bcell h).1 _ _ hb1).trans p1, ((bcell h).1 _ _ hb1).trans p2, ((bcell h).1 _ _ hb1).trans p3, ((bcell h).1 _ _ hb1).trans p4, ((bcell h).1 _ _ hb1).trans p5, ((bcell h).1 _ _ hb1).trans p6, ((bcell h).1 _ _ hb1).trans p7, ((bcell h).1 _ _ hb1).trans p8, ((bcell h).1 _ _ hb1).trans p9, ((bcell h).1 _ _ hb1).trans p10, ((bcell h).1 _ _ hb1).trans r0, ((bcell h).1 _ _ hb1).trans r1, ((bcell h).1 _ _ hb1).trans r2, ((bcell h).1 _ _ hb1).trans r3, ((bcell h).1 _ _ hb1).trans r4, ((bcell h).1 _ _ hb1).trans r5, ((bcell h).1 _ _ hb1).trans r6, ((bcell h).1 _ _ hb1).trans r7, ((bcell h).1 _ _ hb1).trans r8, ((bcell h).1 _ _ hb1).trans r9, ((bcell h).1 _ _ hb1).trans r10⟩
    have K := Hid.mk K
    clear p0 p1 p2 p3 p4 p5 p6 p7 p8 p9 p10 r0 r1 r2 r3 r4 r5 r6 r7 r8 r9 r10
    go_wp2_with fail
    refine wp_region_held_drew (S := (fun w' => w'.cell? ⟨b1, K1, none⟩ = some (.int .i64 x.s.a) ∧ w'.cell? ⟨b1, K1 + 1, none⟩ = some (.int .i64 x.s.b) ∧ w'.cell? ⟨b1, K1 + 2, none⟩ = some (.int .i64 x.s.c) ∧ w'.cell? ⟨b1, K1 + 3, none⟩ = some (.int .i64 x.s.d) ∧ w'.cell? ⟨b1, K1 + 4, none⟩ = some (.int .i64 x.s.e) ∧ w'.cell? ⟨b1, K1 + 5, none⟩ = some (.int .i64 x.s.f) ∧ w'.cell? ⟨b1, K1 + 6, none⟩ = some (.int .i64 x.s.g) ∧ w'.cell? ⟨b1, K1 + 7, none⟩ = some (.int .i64 x.s.h) ∧ w'.cell? ⟨b1, K1 + 8, none⟩ = some (.int .i64 x.s.r) ∧ w'.cell? ⟨b1, K1 + 9, none⟩ = some (.int .i64 x.p) ∧ w'.cell? ⟨b1, K1 + 10, none⟩ = some (.int .i64 x.q) ∧ w'.cell? ⟨b1, K2, none⟩ = some (.int .i64 y.s.a) ∧ w'.cell? ⟨b1, K2 + 1, none⟩ = some (.int .i64 y.s.b) ∧ w'.cell? ⟨b1, K2 + 2, none⟩ = some (.int .i64 y.s.c) ∧ w'.cell? ⟨b1, K2 + 3, none⟩ = some (.int .i64 y.s.d) ∧ w'.cell? ⟨b1, K2 + 4, none⟩ = some (.int .i64 y.s.e) ∧ w'.cell? ⟨b1, K2 + 5, none⟩ = some (.int .i64 y.s.f) ∧ w'.cell? ⟨b1, K2 + 6, none⟩ = some (.int .i64 y.s.g) ∧ w'.cell? ⟨b1, K2 + 7, none⟩ = some (.int .i64 y.s.h) ∧ w'.cell? ⟨b1, K2 + 8, none⟩ = some (.int .i64 y.s.r) ∧ w'.cell? ⟨b1, K2 + 9, none⟩ = some (.int .i64 y.p) ∧ w'.cell? ⟨b1, K2 + 10, none⟩ = some (.int .i64 y.q))) (by kernel_rfl) (K.out _ (Below.refl _ _).drew) (fun hHeld => ?_)
    refine wpAnyH_take (i := 0) (oi := _) (v := ?vz1u1) rfl (by kernel_rfl) (by kernel_rfl) (by kernel_rfl) (fun _ _ _ h => h) (Or.inl ⟨by rfl, ?hyz1u1⟩) hHeld ?restz1u1
    case hyz1u1 => (intro w hSw; (try dsimp only at hSw); go_simp; first | done | with_reducible rfl)
    try simp only [Act.put, List.getElem_toArray, List.getElem_cons_zero, List.setIfInBounds_toArray, List.set_cons_zero, List.set_cons_succ]
    refine wpAnyH_take (i := 1) (oi := _) (v := ?vz1u2) rfl (by kernel_rfl) (by kernel_rfl) (by kernel_rfl) (fun _ _ _ h => h) (Or.inl ⟨by rfl, ?hyz1u2⟩) hHeld ?restz1u2
    case hyz1u2 => (intro w hSw; (try dsimp only at hSw); go_simp; first | done | with_reducible rfl)
    try simp only [Act.put, List.getElem_toArray, List.getElem_cons_zero, List.getElem_cons_succ, List.setIfInBounds_toArray, List.set_cons_zero, List.set_cons_succ]
    refine wpAnyH_take (i := 2) (oi := _) (v := ?vz1u3) rfl (by kernel_rfl) (by kernel_rfl) (by kernel_rfl) (fun _ _ _ h => h) (Or.inl ⟨by rfl, ?hyz1u3⟩) hHeld ?restz1u3
    case hyz1u3 => (intro w hSw; (try dsimp only at hSw); go_simp; first | done | with_reducible rfl)
    try simp only [Act.put, List.getElem_toArray, List.getElem_cons_zero, List.getElem_cons_succ, List.setIfInBounds_toArray, List.set_cons_zero, List.set_cons_succ]
    refine wpAnyH_take (i := 3) (oi := _) (v := ?vz1u4) rfl (by kernel_rfl) (by kernel_rfl) (by kernel_rfl) (fun _ _ _ h => h) (Or.inl ⟨by rfl, ?hyz1u4⟩) hHeld ?restz1u4
    case hyz1u4 => (intro w hSw; (try dsimp only at hSw); go_simp; first | done | with_reducible rfl)
    try simp only [Act.put, List.getElem_toArray, List.getElem_cons_zero, List.getElem_cons_succ, List.setIfInBounds_toArray, List.set_cons_zero, List.set_cons_succ]
    refine wpAnyH_take (i := 4) (oi := _) (v := ?vz1u5) rfl (by kernel_rfl) (by kernel_rfl) (by kernel_rfl) (fun _ _ _ h => h) (Or.inl ⟨by rfl, ?hyz1u5⟩) hHeld ?restz1u5
    case hyz1u5 => (intro w hSw; (try dsimp only at hSw); go_simp; first | done | with_reducible rfl)
    try simp only [Act.put, List.getElem_toArray, List.getElem_cons_zero, List.getElem_cons_succ, List.setIfInBounds_toArray, List.set_cons_zero, List.set_cons_succ]
    refine wpAnyH_take (i := 5) (oi := _) (v := ?vz1u6) rfl (by kernel_rfl) (by kernel_rfl) (by kernel_rfl) (fun _ _ _ h => h) (Or.inl ⟨by rfl, ?hyz1u6⟩) hHeld ?restz1u6
    case hyz1u6 => (intro w hSw; (try dsimp only at hSw); go_simp; first | done | with_reducible rfl)
    try simp only [Act.put, List.getElem_toArray, List.getElem_cons_zero, List.getElem_cons_succ, List.setIfInBounds_toArray, List.set_cons_zero, List.set_cons_succ]
    refine wpAnyH_take (i := 6) (oi := _) (v := ?vz1u7) rfl (by kernel_rfl) (by kernel_rfl) (by kernel_rfl) (fun _ _ _ h => h) (Or.inl ⟨by rfl, ?hyz1u7⟩) hHeld ?restz1u7
    case hyz1u7 => (intro w hSw; (try dsimp only at hSw); go_simp; first | done | with_reducible rfl)
    try simp only [Act.put, List.getElem_toArray, List.getElem_cons_zero, List.getElem_cons_succ, List.setIfInBounds_toArray, List.set_cons_zero, List.set_cons_succ]
    refine wpAnyH_take (i := 7) (oi := _) (v := ?vz1u8) rfl (by kernel_rfl) (by kernel_rfl) (by kernel_rfl) (fun _ _ _ h => h) (Or.inl ⟨by rfl, ?hyz1u8⟩) hHeld ?restz1u8
    case hyz1u8 => (intro w hSw; (try dsimp only at hSw); go_simp; first | done | with_reducible rfl)
    try simp only [Act.put, List.getElem_toArray, List.getElem_cons_zero, List.getElem_cons_succ, List.setIfInBounds_toArray, List.set_cons_zero, List.set_cons_succ]
    refine wpAnyH_take (i := 8) (oi := _) (v := ?vz1u9) rfl (by kernel_rfl) (by kernel_rfl) (by kernel_rfl) (fun _ _ _ h => h) (Or.inl ⟨by rfl, ?hyz1u9⟩) hHeld ?restz1u9
    case hyz1u9 => (intro w hSw; (try dsimp only at hSw); go_simp; first | done | with_reducible rfl)
    try simp only [Act.put, List.getElem_toArray, List.getElem_cons_zero, List.getElem_cons_succ, List.setIfInBounds_toArray, List.set_cons_zero, List.set_cons_succ]
    refine wpAnyH_ready (rs := [9]) (by kernel_rfl) (by simp) ?_
    refine AllReadyH.cons (o := _) rfl (fun K0 hK0 => ?_) AllReadyH.nil
    go_simp
    go_at_call 71
    refine (CM.out _).mono ?_
    rintro e wz1v10 ⟨rfl, bz1v10⟩
    refine hK0.out _ _ (K.out _ (thenB (Below.refl _ _).drew bz1v10)) (fun hHeld => ?_)
    clear hK0 K0
    try simp only [Act.put, List.getElem_toArray, List.getElem_cons_zero, List.getElem_cons_succ, List.setIfInBounds_toArray, List.set_cons_zero, List.set_cons_succ]
    refine wpAnyH_take (i := 10) (oi := _) (v := ?vz1u11) rfl (by kernel_rfl) (by kernel_rfl) (by kernel_rfl) (fun _ _ _ h => h) (Or.inl ⟨by rfl, ?hyz1u11⟩) hHeld ?restz1u11
    case hyz1u11 => (intro w hSw; (try dsimp only at hSw); go_simp; first | done | with_reducible rfl)
    try simp only [Act.put, List.getElem_toArray, List.getElem_cons_zero, List.getElem_cons_succ, List.setIfInBounds_toArray, List.set_cons_zero, List.set_cons_succ]
    refine wpAnyH_done (by kernel_rfl) ?_ _
    clear K hHeld
    replace VR := VR.kept (thenB (Below.refl _ _).drew bz1v10)
    have ha := HA.out.kept (thenB (Below.refl _ _).drew bz1v10)
    replace B := thenB B (thenB (Below.refl _ _).drew bz1v10)
    have Sz1 := ((thenB (Below.refl _ _).drew bz1v10)).size
    clear bz1v10
    obtain ⟨s_VR, f_VR, z_VR⟩ := VR.open
    have Bo := B
    rcases hw with ⟨rfl, e1, e2⟩ | ⟨rfl, e1, e2⟩
    · skip
      replace e1 := Hid.mk e1
      replace e2 := Hid.mk e2
      clear s_VR f_VR z_VR
      have VF := Hid.mk (VR.filled [.int .i64 1, .slice none 0 0] rfl)
      have BR := belowCells B (show w.heap.size ≤ w.heap.size by (first | omega | (simp; done) | (simp; omega))) 0 [.int .i64 1, .slice none 0 0]
      have HT := Hid.mk VR.there
      replace BR := Hid.mk BR
      obtain ⟨s_VR, f_VR, z_VR⟩ := VR.open
      go_wp2_with (refine wpList_store_mid rfl 45 _ _ rfl (w.heap.size) 0 #[.int .i64 1, .slice none 0 0] rfl rfl HT.out (by kernel_rfl) (by kernel_rfl) ?_)
      refine bodyPost_ret (v := .agg #[.int .i64 1, .slice none 0 0]) (results_row Tryd.results22 _ _ (w.heap.size) [.int .i64 1, .slice none 0 0] _ rfl VF.out Tryd.underlying45 rfl (by kernel_rfl)) rfl ⟨none, 0, 0, by rw [e1.out], by rw [e2.out]; rfl, by rw [e2.out]; exact OwnRule.none, BR.out⟩
    · skip
      replace e1 := Hid.mk e1
      replace e2 := Hid.mk e2
      clear hK1 hK2 HA
      go_wp2_with fail
      refine (cloneRules_ok b1 o1 n ca xs _ ha hn hn0 (by omega)).mono ?_
      rintro e w12 ⟨c5, d5, rfl, O4, b12⟩
      clear s_VR f_VR z_VR
      have S12 := b12.size
      replace VR := VR.kept b12
      replace ha := ha.kept b12
      replace B := thenB B b12
      clear b12
      obtain ⟨s_VR, f_VR, z_VR⟩ := VR.open
      have Bo := B
      have HT1 := Hid.mk (O4.there k (by omega))
      have hc7 := (O4.lt _ rfl).1
      simp only at hc7
      have hc8 := (O4.lt _ rfl).2
      simp only at hc8
      have RO := O4.rd
      rcases RO with h0 | ⟨b9, o9, hb9, hcb⟩
      · rw [h0] at hn; simp at hn; omega
      simp only [Option.some.injEq, Addr.mk.injEq, and_true] at hb9
      obtain ⟨rfl, rfl⟩ := hb9
      obtain ⟨p0, p1, p2, p3, p4, p5, p6, p7, p8, p9, p10⟩ := RdRule.cells hcb k (by omega) x hxx
      obtain ⟨r0, r1, r2, r3, r4, r5, r6, r7, r8, r9, r10⟩ := RdRule.cells hcb (k + 1) (by omega) y hyy
      clear hcb
      simp only [Nat.zero_add] at p0 p1 p2 p3 p4 p5 p6 p7 p8 p9 p10 r0 r1 r2 r3 r4 r5 r6 r7 r8 r9 r10
      clear s_VR f_VR z_VR
      have bd : Below w12.heap.size w12 w12.drew := (Below.refl _ _).drew
      have O5a := O4.kept bd
      have VR5a := VR.kept bd
      have B5a := thenB B bd
      replace p0 := ((bcell bd).1 _ _ hc8).trans p0
      replace p1 := ((bcell bd).1 _ _ hc8).trans p1
      replace p2 := ((bcell bd).1 _ _ hc8).trans p2
      replace p3 := ((bcell bd).1 _ _ hc8).trans p3
      replace p4 := ((bcell bd).1 _ _ hc8).trans p4
      replace p5 := ((bcell bd).1 _ _ hc8).trans p5
      replace p6 := ((bcell bd).1 _ _ hc8).trans p6
      replace p7 := ((bcell bd).1 _ _ hc8).trans p7
      replace p8 := ((bcell bd).1 _ _ hc8).trans p8
      replace p9 := ((bcell bd).1 _ _ hc8).trans p9
      replace p10 := ((bcell bd).1 _ _ hc8).trans p10
      replace r0 := ((bcell bd).1 _ _ hc8).trans r0
      replace r1 := ((bcell bd).1 _ _ hc8).trans r1
      replace r2 := ((bcell bd).1 _ _ hc8).trans r2
      replace r3 := ((bcell bd).1 _ _ hc8).trans r3
      replace r4 := ((bcell bd).1 _ _ hc8).trans r4
      replace r5 := ((bcell bd).1 _ _ hc8).trans r5
      replace r6 := ((bcell bd).1 _ _ hc8).trans r6
      replace r7 := ((bcell bd).1 _ _ hc8).trans r7
      replace r8 := ((bcell bd).1 _ _ hc8).trans r8
      replace r9 := ((bcell bd).1 _ _ hc8).trans r9
      replace r10 := ((bcell bd).1 _ _ hc8).trans r10
      replace HT1 := Hid.mk (O5a.there k (by omega))
      go_upto_region 9 with fail
      refine wp_region_any (by kernel_rfl) ?_
      change wpAny _ _ _ _ _ _ _ w12.drew
      clear O4 VR B Bo ha bd
      generalize w12.drew = wd at *
      have hwc : w.heap.size ≤ c5 := by have := hc7; omega
      have hR : w.heap.size ≠ c5 := by omega
      have hsd : c5 < wd.heap.size := (O5a.lt _ rfl).2
      generalize hK1 : k * 11 = K1 at *
      generalize hK2 : (k + 1) * 11 = K2 at *
      have O5 := O5a.stroke k (by omega) y
      dsimp only [rowRule] at O5
      rw [hK1] at O5
      have VR6 := VR5a.apart hR K1 [.int .i64 y.s.a, .int .i64 y.s.b, .int .i64 y.s.c, .int .i64 y.s.d, .int .i64 y.s.e, .int .i64 y.s.f, .int .i64 y.s.g, .int .i64 y.s.h, .int .i64 y.s.r, .int .i64 y.p, .int .i64 y.q]
      have B6 := belowCells B5a hwc K1 [.int .i64 y.s.a, .int .i64 y.s.b, .int .i64 y.s.c, .int .i64 y.s.d, .int .i64 y.s.e, .int .i64 y.s.f, .int .i64 y.s.g, .int .i64 y.s.h, .int .i64 y.s.r, .int .i64 y.p, .int .i64 y.q]
      obtain ⟨w6, hw6⟩ : ∃ w6, wd.setCells c5 K1 [.int .i64 y.s.a, .int .i64 y.s.b, .int .i64 y.s.c, .int .i64 y.s.d, .int .i64 y.s.e, .int .i64 y.s.f, .int .i64 y.s.g, .int .i64 y.s.h, .int .i64 y.s.r, .int .i64 y.p, .int .i64 y.q] = w6 := ⟨_, rfl⟩
      rw [hw6] at O5 VR6 B6
      replace hw6 := Hid.mk hw6
      have HT2 := O5.there (k + 1) (by rw [List.length_set]; omega)
      rw [hK2] at HT2
      replace HT2 := Hid.mk HT2
      have O6 := O5.stroke (k + 1) (by rw [List.length_set]; omega) x
      dsimp only [rowRule] at O6
      rw [hK2] at O6
      have VR7 := VR6.apart hR K2 [.int .i64 x.s.a, .int .i64 x.s.b, .int .i64 x.s.c, .int .i64 x.s.d, .int .i64 x.s.e, .int .i64 x.s.f, .int .i64 x.s.g, .int .i64 x.s.h, .int .i64 x.s.r, .int .i64 x.p, .int .i64 x.q]
      have B7 := belowCells B6 hwc K2 [.int .i64 x.s.a, .int .i64 x.s.b, .int .i64 x.s.c, .int .i64 x.s.d, .int .i64 x.s.e, .int .i64 x.s.f, .int .i64 x.s.g, .int .i64 x.s.h, .int .i64 x.s.r, .int .i64 x.p, .int .i64 x.q]
      obtain ⟨w7, hw7⟩ : ∃ w7, w6.setCells c5 K2 [.int .i64 x.s.a, .int .i64 x.s.b, .int .i64 x.s.c, .int .i64 x.s.d, .int .i64 x.s.e, .int .i64 x.s.f, .int .i64 x.s.g, .int .i64 x.s.h, .int .i64 x.s.r, .int .i64 x.p, .int .i64 x.q] = w7 := ⟨_, rfl⟩
      rw [hw7] at O6 VR7 B7
      replace hw7 := Hid.mk hw7
      have HT3 := Hid.mk VR7.there
      have VF := VR7.filled [.int .i64 0, .slice (some ⟨c5, 0, none⟩) n d5] rfl
      have BR := belowCells B7 (show w.heap.size ≤ w.heap.size by omega) 0 [.int .i64 0, .slice (some ⟨c5, 0, none⟩) n d5]
      have O7 := OwnRule.mono (O6.apart (B := w.heap.size) (by intro b hb; simp at hb; subst hb; simp; omega) 0 [.int .i64 0, .slice (some ⟨c5, 0, none⟩) n d5]) (show w.heap.size ≤ _ by omega)
      obtain ⟨w8, hw8⟩ : ∃ w8, w7.setCells (w.heap.size) 0 [.int .i64 0, .slice (some ⟨c5, 0, none⟩) n d5] = w8 := ⟨_, rfl⟩
      rw [hw8] at VF BR O7
      replace hw8 := Hid.mk hw8
      replace VF := Hid.mk VF
      replace BR := Hid.mk BR
      replace O7 := Hid.mk O7
      clear O5a O5 O6 VR5a VR6 VR7 B5a B6 B7
      refine wpAny_take (i := 0) (oi := _) (v := ?vsw1) rfl (by kernel_rfl) (by kernel_rfl) (by kernel_rfl) (fun _ _ _ h => h) (Or.inl ⟨by rfl, ?hysw1⟩) ?restsw1
      case hysw1 => (intro w; go_simp; first | done | with_reducible rfl)
      try simp only [Act.put, List.getElem_toArray, List.getElem_cons_zero, List.setIfInBounds_toArray, List.set_cons_zero, List.set_cons_succ]
      refine wpAny_take (i := 1) (oi := _) (v := ?vsw2) rfl (by kernel_rfl) (by kernel_rfl) (by kernel_rfl) (fun _ _ _ h => h) (Or.inl ⟨by rfl, ?hysw2⟩) ?restsw2
      case hysw2 => (intro w; go_simp; first | done | with_reducible rfl)
      try simp only [Act.put, List.getElem_toArray, List.getElem_cons_zero, List.getElem_cons_succ, List.setIfInBounds_toArray, List.set_cons_zero, List.set_cons_succ]
      refine wpAny_take (i := 2) (oi := _) (v := ?vsw3) rfl (by kernel_rfl) (by kernel_rfl) (by kernel_rfl) (fun _ _ _ h => h) (Or.inl ⟨by rfl, ?hysw3⟩) ?restsw3
      case hysw3 => (intro w; go_simp; first | done | with_reducible rfl)
      try simp only [Act.put, List.getElem_toArray, List.getElem_cons_zero, List.getElem_cons_succ, List.setIfInBounds_toArray, List.set_cons_zero, List.set_cons_succ]
      refine wpAny_take (i := 3) (oi := _) (v := ?vsw4) rfl (by kernel_rfl) (by kernel_rfl) (by kernel_rfl) (fun _ _ _ h => h) (Or.inl ⟨by rfl, ?hysw4⟩) ?restsw4
      case hysw4 => (intro w; go_simp; first | done | with_reducible rfl)
      try simp only [Act.put, List.getElem_toArray, List.getElem_cons_zero, List.getElem_cons_succ, List.setIfInBounds_toArray, List.set_cons_zero, List.set_cons_succ]
      refine wpAny_take (i := 4) (oi := _) (v := ?vsw5) rfl (by kernel_rfl) (by kernel_rfl) (by kernel_rfl) (fun _ _ _ h => h) (Or.inl ⟨by rfl, ?hysw5⟩) ?restsw5
      case hysw5 => (intro w; go_simp; first | done | with_reducible rfl)
      try simp only [Act.put, List.getElem_toArray, List.getElem_cons_zero, List.getElem_cons_succ, List.setIfInBounds_toArray, List.set_cons_zero, List.set_cons_succ]
      refine wpAny_take (i := 5) (oi := _) (v := ?vsw6) rfl (by kernel_rfl) (by kernel_rfl) (by kernel_rfl) (fun _ _ _ h => h) (Or.inl ⟨by rfl, ?hysw6⟩) ?restsw6
      case hysw6 => (intro w; go_simp; first | done | with_reducible rfl)
      try simp only [Act.put, List.getElem_toArray, List.getElem_cons_zero, List.getElem_cons_succ, List.setIfInBounds_toArray, List.set_cons_zero, List.set_cons_succ]
      refine wpAny_take (i := 6) (oi := _) (v := ?vsw7) rfl (by kernel_rfl) (by kernel_rfl) (by kernel_rfl) (fun _ _ _ h => h) (Or.inl ⟨by rfl, ?hysw7⟩) ?restsw7
      case hysw7 => (intro w; go_simp; first | done | with_reducible rfl)
      try simp only [Act.put, List.getElem_toArray, List.getElem_cons_zero, List.getElem_cons_succ, List.setIfInBounds_toArray, List.set_cons_zero, List.set_cons_succ]
      refine wpAny_take (i := 7) (oi := _) (v := ?vsw8) rfl (by kernel_rfl) (by kernel_rfl) (by kernel_rfl) (fun _ _ _ h => h) (Or.inl ⟨by rfl, ?hysw8⟩) ?restsw8
      case hysw8 => (intro w; go_simp; first | done | with_reducible rfl)
      try simp only [Act.put, List.getElem_toArray, List.getElem_cons_zero, List.getElem_cons_succ, List.setIfInBounds_toArray, List.set_cons_zero, List.set_cons_succ]
      refine wpAny_take (i := 8) (oi := _) (v := ?vsw9) rfl (by kernel_rfl) (by kernel_rfl) (by kernel_rfl) (fun _ _ _ h => h) (Or.inl ⟨by rfl, ?hysw9⟩) ?restsw9
      case hysw9 => (intro w; go_simp; first | done | with_reducible rfl)
      try simp only [Act.put, List.getElem_toArray, List.getElem_cons_zero, List.getElem_cons_succ, List.setIfInBounds_toArray, List.set_cons_zero, List.set_cons_succ]
      refine wpAny_take (i := 10) (oi := _) (v := ?vsw10) rfl (by kernel_rfl) (by kernel_rfl) (by kernel_rfl) (fun _ _ _ h => h) (Or.inl ⟨by rfl, ?hysw10⟩) ?restsw10
      case hysw10 => (intro w; go_simp; first | done | with_reducible rfl)
      try simp only [Act.put, List.getElem_toArray, List.getElem_cons_zero, List.getElem_cons_succ, List.setIfInBounds_toArray, List.set_cons_zero, List.set_cons_succ]
      refine wpAny_take (i := 11) (oi := _) (v := ?vsw11) rfl (by kernel_rfl) (by kernel_rfl) (by kernel_rfl) (fun _ _ _ h => h) (Or.inl ⟨by rfl, ?hysw11⟩) ?restsw11
      case hysw11 => (intro w; go_simp; first | done | with_reducible rfl)
      try simp only [Act.put, List.getElem_toArray, List.getElem_cons_zero, List.getElem_cons_succ, List.setIfInBounds_toArray, List.set_cons_zero, List.set_cons_succ]
      refine wpAny_take (i := 12) (oi := _) (v := ?vsw12) rfl (by kernel_rfl) (by kernel_rfl) (by kernel_rfl) (fun _ _ _ h => h) (Or.inl ⟨by rfl, ?hysw12⟩) ?restsw12
      case hysw12 => (intro w; go_simp; first | done | with_reducible rfl)
      try simp only [Act.put, List.getElem_toArray, List.getElem_cons_zero, List.getElem_cons_succ, List.setIfInBounds_toArray, List.set_cons_zero, List.set_cons_succ]
      refine wpAny_ready (rs := [9, 13]) (by kernel_rfl) (by simp) ?_
      refine AllReady.cons (o := _) rfl (fun K0 hK0 => ?_) (AllReady.cons (o := _) rfl (fun K0 hK0 => ?_) AllReady.nil)
      · skip
        go_simp
        refine hK0 _ _ ?_
        clear hK0 K0
        try simp only [Act.put, List.getElem_toArray, List.getElem_cons_zero, List.getElem_cons_succ, List.setIfInBounds_toArray, List.set_cons_zero, List.set_cons_succ]
        refine wpAny_ready (rs := [13]) (by kernel_rfl) (by simp) ?_
        refine AllReady.cons (o := _) rfl (fun K0 hK0 => ?_) AllReady.nil
        go_simp
        refine hK0 _ _ ?_
        clear hK0 K0
        try simp only [Act.put, List.getElem_toArray, List.getElem_cons_zero, List.getElem_cons_succ, List.setIfInBounds_toArray, List.set_cons_zero, List.set_cons_succ]
        refine wpAny_take (i := 14) (oi := _) (v := ?vsw13) rfl (by kernel_rfl) (by kernel_rfl) (by kernel_rfl) (fun _ _ _ h => h) (Or.inl ⟨by rfl, ?hysw13⟩) ?restsw13
        case hysw13 => (intro w; go_simp; first | done | with_reducible rfl)
        try simp only [Act.put, List.getElem_toArray, List.getElem_cons_zero, List.getElem_cons_succ, List.setIfInBounds_toArray, List.set_cons_zero, List.set_cons_succ]
        refine wpAny_ready (rs := [15]) (by kernel_rfl) (by simp) ?_
        refine AllReady.cons (o := _) rfl (fun K0 hK0 => ?_) AllReady.nil
        rw [if_pos (by rfl)]
        refine wp_store_mid _ _ _ rfl c5 K1 #[.int .i64 y.s.a, .int .i64 y.s.b, .int .i64 y.s.c, .int .i64 y.s.d, .int .i64 y.s.e, .int .i64 y.s.f, .int .i64 y.s.g, .int .i64 y.s.h, .int .i64 y.s.r, .int .i64 y.p, .int .i64 y.q] rfl rfl HT1.out (by kernel_rfl) (by kernel_rfl) ?_
        rw [hw6.out]
        refine hK0 _ _ ?_
        clear hK0 K0
        refine wpAny_take (i := 16) (oi := _) (v := ?vsw14) rfl (by kernel_rfl) (by kernel_rfl) (by kernel_rfl) (fun _ _ _ h => h) (Or.inl ⟨by rfl, ?hysw14⟩) ?restsw14
        case hysw14 => (intro w; go_simp; first | done | with_reducible rfl)
        try simp only [Act.put, List.getElem_toArray, List.getElem_cons_zero, List.getElem_cons_succ, List.setIfInBounds_toArray, List.set_cons_zero, List.set_cons_succ]
        refine wpAny_ready (rs := [17]) (by kernel_rfl) (by simp) ?_
        refine AllReady.cons (o := _) rfl (fun K0 hK0 => ?_) AllReady.nil
        rw [if_pos (by rfl)]
        refine wp_store_mid _ _ _ rfl c5 K2 #[.int .i64 x.s.a, .int .i64 x.s.b, .int .i64 x.s.c, .int .i64 x.s.d, .int .i64 x.s.e, .int .i64 x.s.f, .int .i64 x.s.g, .int .i64 x.s.h, .int .i64 x.s.r, .int .i64 x.p, .int .i64 x.q] rfl rfl HT2.out (by kernel_rfl) (by kernel_rfl) ?_
        rw [hw7.out]
        refine hK0 _ _ ?_
        clear hK0 K0
        refine wpAny_done (by kernel_rfl) ?_ _
        clear p0 p1 p2 p3 p4 p5 p6 p7 p8 p9 p10 r0 r1 r2 r3 r4 r5 r6 r7 r8 r9 r10
        go_wp2_with (refine wpList_stroke w8 rfl 45 _ _ rfl (w.heap.size) 0 #[.int .i64 0, .slice (some ⟨c5, 0, none⟩) n d5] rfl rfl HT3.out (by kernel_rfl) (by kernel_rfl) hw8.out ?_)
        refine bodyPost_ret (v := .agg #[.int .i64 0, .slice (some ⟨c5, 0, none⟩) n d5]) (results_row Tryd.results22 _ _ (w.heap.size) [.int .i64 0, .slice (some ⟨c5, 0, none⟩) n d5] _ rfl VF.out Tryd.underlying45 rfl (by kernel_rfl)) rfl ⟨some ⟨c5, 0, none⟩, d5, n, by rw [e1.out], by rw [e2.out]; simp [hn], by rw [e2.out]; exact O7.out, BR.out⟩
      · skip
        go_simp
        refine hK0 _ _ ?_
        clear hK0 K0
        try simp only [Act.put, List.getElem_toArray, List.getElem_cons_zero, List.getElem_cons_succ, List.setIfInBounds_toArray, List.set_cons_zero, List.set_cons_succ]
        refine wpAny_ready (rs := [9]) (by kernel_rfl) (by simp) ?_
        refine AllReady.cons (o := _) rfl (fun K0 hK0 => ?_) AllReady.nil
        go_simp
        refine hK0 _ _ ?_
        clear hK0 K0
        try simp only [Act.put, List.getElem_toArray, List.getElem_cons_zero, List.getElem_cons_succ, List.setIfInBounds_toArray, List.set_cons_zero, List.set_cons_succ]
        refine wpAny_take (i := 14) (oi := _) (v := ?vsw15) rfl (by kernel_rfl) (by kernel_rfl) (by kernel_rfl) (fun _ _ _ h => h) (Or.inl ⟨by rfl, ?hysw15⟩) ?restsw15
        case hysw15 => (intro w; go_simp; first | done | with_reducible rfl)
        try simp only [Act.put, List.getElem_toArray, List.getElem_cons_zero, List.getElem_cons_succ, List.setIfInBounds_toArray, List.set_cons_zero, List.set_cons_succ]
        refine wpAny_ready (rs := [15]) (by kernel_rfl) (by simp) ?_
        refine AllReady.cons (o := _) rfl (fun K0 hK0 => ?_) AllReady.nil
        rw [if_pos (by rfl)]
        refine wp_store_mid _ _ _ rfl c5 K1 #[.int .i64 y.s.a, .int .i64 y.s.b, .int .i64 y.s.c, .int .i64 y.s.d, .int .i64 y.s.e, .int .i64 y.s.f, .int .i64 y.s.g, .int .i64 y.s.h, .int .i64 y.s.r, .int .i64 y.p, .int .i64 y.q] rfl rfl HT1.out (by kernel_rfl) (by kernel_rfl) ?_
        rw [hw6.out]
        refine hK0 _ _ ?_
        clear hK0 K0
        refine wpAny_take (i := 16) (oi := _) (v := ?vsw16) rfl (by kernel_rfl) (by kernel_rfl) (by kernel_rfl) (fun _ _ _ h => h) (Or.inl ⟨by rfl, ?hysw16⟩) ?restsw16
        case hysw16 => (intro w; go_simp; first | done | with_reducible rfl)
        try simp only [Act.put, List.getElem_toArray, List.getElem_cons_zero, List.getElem_cons_succ, List.setIfInBounds_toArray, List.set_cons_zero, List.set_cons_succ]
        refine wpAny_ready (rs := [17]) (by kernel_rfl) (by simp) ?_
        refine AllReady.cons (o := _) rfl (fun K0 hK0 => ?_) AllReady.nil
        rw [if_pos (by rfl)]
        refine wp_store_mid _ _ _ rfl c5 K2 #[.int .i64 x.s.a, .int .i64 x.s.b, .int .i64 x.s.c, .int .i64 x.s.d, .int .i64 x.s.e, .int .i64 x.s.f, .int .i64 x.s.g, .int .i64 x.s.h, .int .i64 x.s.r, .int .i64 x.p, .int .i64 x.q] rfl rfl HT2.out (by kernel_rfl) (by kernel_rfl) ?_
        rw [hw7.out]
        refine hK0 _ _ ?_
        clear hK0 K0
        refine wpAny_done (by kernel_rfl) ?_ _
        clear p0 p1 p2 p3 p4 p5 p6 p7 p8 p9 p10 r0 r1 r2 r3 r4 r5 r6 r7 r8 r9 r10
        go_wp2_with (refine wpList_stroke w8 rfl 45 _ _ rfl (w.heap.size) 0 #[.int .i64 0, .slice (some ⟨c5, 0, none⟩) n d5] rfl rfl HT3.out (by kernel_rfl) (by kernel_rfl) hw8.out ?_)
        refine bodyPost_ret (v := .agg #[.int .i64 0, .slice (some ⟨c5, 0, none⟩) n d5]) (results_row Tryd.results22 _ _ (w.heap.size) [.int .i64 0, .slice (some ⟨c5, 0, none⟩) n d5] _ rfl VF.out Tryd.underlying45 rfl (by kernel_rfl)) rfl ⟨some ⟨c5, 0, none⟩, d5, n, by rw [e1.out], by rw [e2.out]; simp [hn], by rw [e2.out]; exact O7.out, BR.out⟩

end Go.Proofs.YtngkahchhioncaaDoor
