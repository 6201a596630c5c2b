/- The laws' own helpers over selectors, by contracts. -/
import Derived.Test.YtngkahchhioncaaDoorSelA
import Derived.Test.YtngkahchhioncaaDoorVar
namespace Go.Proofs.YtngkahchhioncaaDoor
open Go.RowKit

set_option maxHeartbeats 1000000 in
theorem toRange_ok (l h : Int) (w : World) :
    Calls Tryd.prog 144 #[.agg #[.int .i64 l, .int .i64 h]] w fun e w' => e = .returned (.agg #[.int .i64 l, .int .i64 h]) ∧ Below w.heap.size w w' := by
  go_enter Tryd.func144, Tryd.ntmps144
  go_wp2
  refine bodyPost_ret (v := .agg #[.int .i64 l, .int .i64 h]) (by simp [results, Tryd.results144, go_sem]) rfl ⟨rfl, ?_⟩
  repeat' first | with_reducible exact Below.refl _ _ | with_reducible refine Below.setCell ?_ ?_ _ | with_reducible refine Below.alloc ?_ ?_ _ | (simp; try omega)

set_option maxHeartbeats 2000000 in
theorem toSel_ok (x : S9) (w : World) :
    Calls Tryd.prog 121 #[.agg #[.int .i64 x.a, .int .i64 x.b, .int .i64 x.c, .int .i64 x.d, .int .i64 x.e, .int .i64 x.f, .int .i64 x.g, .int .i64 x.h, .int .i64 x.r]] w fun e w' => e = .returned (.agg #[.int .i64 x.a, .int .i64 x.b, .int .i64 x.c, .int .i64 x.d, .int .i64 x.e, .int .i64 x.f, .int .i64 x.g, .int .i64 x.h, .int .i64 x.r]) ∧ Below w.heap.size w w' := by
  go_enter Tryd.func121, Tryd.ntmps121
  have B := Below.refl w.heap.size w
  replace B := thenB B (belowA w (.cells #[.int .i64 x.a, .int .i64 x.b, .int .i64 x.c, .int .i64 x.d, .int .i64 x.e, .int .i64 x.f, .int .i64 x.g, .int .i64 x.h, .int .i64 x.r] 115))
  have VX := V.new w [.int .i64 x.a, .int .i64 x.b, .int .i64 x.c, .int .i64 x.d, .int .i64 x.e, .int .i64 x.f, .int .i64 x.g, .int .i64 x.h, .int .i64 x.r] 115
  replace VX := VX.kept (belowA (w.alloc (.cells #[.int .i64 x.a, .int .i64 x.b, .int .i64 x.c, .int .i64 x.d, .int .i64 x.e, .int .i64 x.f, .int .i64 x.g, .int .i64 x.h, .int .i64 x.r] 115)) (.cells #[.int .i64 0, .int .i64 0, .int .i64 0, .int .i64 0, .int .i64 0, .int .i64 0, .int .i64 0, .int .i64 0, .int .i64 0] 32))
  replace B := thenB B (belowA (w.alloc (.cells #[.int .i64 x.a, .int .i64 x.b, .int .i64 x.c, .int .i64 x.d, .int .i64 x.e, .int .i64 x.f, .int .i64 x.g, .int .i64 x.h, .int .i64 x.r] 115)) (.cells #[.int .i64 0, .int .i64 0, .int .i64 0, .int .i64 0, .int .i64 0, .int .i64 0, .int .i64 0, .int .i64 0, .int .i64 0] 32))
  have VR : V ((w.alloc (.cells #[.int .i64 x.a, .int .i64 x.b, .int .i64 x.c, .int .i64 x.d, .int .i64 x.e, .int .i64 x.f, .int .i64 x.g, .int .i64 x.h, .int .i64 x.r] 115)).alloc (.cells #[.int .i64 0, .int .i64 0, .int .i64 0, .int .i64 0, .int .i64 0, .int .i64 0, .int .i64 0, .int .i64 0, .int .i64 0] 32)) (w.heap.size + 1) [.int .i64 0, .int .i64 0, .int .i64 0, .int .i64 0, .int .i64 0, .int .i64 0, .int .i64 0, .int .i64 0, .int .i64 0] := V.newAt _ _ _ _ (by simp)
  replace VX := VX.kept (belowA ((w.alloc (.cells #[.int .i64 x.a, .int .i64 x.b, .int .i64 x.c, .int .i64 x.d, .int .i64 x.e, .int .i64 x.f, .int .i64 x.g, .int .i64 x.h, .int .i64 x.r] 115)).alloc (.cells #[.int .i64 0, .int .i64 0, .int .i64 0, .int .i64 0, .int .i64 0, .int .i64 0, .int .i64 0, .int .i64 0, .int .i64 0] 32)) (.cells #[.int .i64 0, .int .i64 0, .int .i64 0, .int .i64 0, .int .i64 0, .int .i64 0, .int .i64 0, .int .i64 0, .int .i64 0] 32))
  replace VR := VR.kept (belowA ((w.alloc (.cells #[.int .i64 x.a, .int .i64 x.b, .int .i64 x.c, .int .i64 x.d, .int .i64 x.e, .int .i64 x.f, .int .i64 x.g, .int .i64 x.h, .int .i64 x.r] 115)).alloc (.cells #[.int .i64 0, .int .i64 0, .int .i64 0, .int .i64 0, .int .i64 0, .int .i64 0, .int .i64 0, .int .i64 0, .int .i64 0] 32)) (.cells #[.int .i64 0, .int .i64 0, .int .i64 0, .int .i64 0, .int .i64 0, .int .i64 0, .int .i64 0, .int .i64 0, .int .i64 0] 32))
  replace B := thenB B (belowA ((w.alloc (.cells #[.int .i64 x.a, .int .i64 x.b, .int .i64 x.c, .int .i64 x.d, .int .i64 x.e, .int .i64 x.f, .int .i64 x.g, .int .i64 x.h, .int .i64 x.r] 115)).alloc (.cells #[.int .i64 0, .int .i64 0, .int .i64 0, .int .i64 0, .int .i64 0, .int .i64 0, .int .i64 0, .int .i64 0, .int .i64 0] 32)) (.cells #[.int .i64 0, .int .i64 0, .int .i64 0, .int .i64 0, .int .i64 0, .int .i64 0, .int .i64 0, .int .i64 0, .int .i64 0] 32))
  have VO : V (((w.alloc (.cells #[.int .i64 x.a, .int .i64 x.b, .int .i64 x.c, .int .i64 x.d, .int .i64 x.e, .int .i64 x.f, .int .i64 x.g, .int .i64 x.h, .int .i64 x.r] 115)).alloc (.cells #[.int .i64 0, .int .i64 0, .int .i64 0, .int .i64 0, .int .i64 0, .int .i64 0, .int .i64 0, .int .i64 0, .int .i64 0] 32)).alloc (.cells #[.int .i64 0, .int .i64 0, .int .i64 0, .int .i64 0, .int .i64 0, .int .i64 0, .int .i64 0, .int .i64 0, .int .i64 0] 32)) (w.heap.size + 1 + 1) [.int .i64 0, .int .i64 0, .int .i64 0, .int .i64 0, .int .i64 0, .int .i64 0, .int .i64 0, .int .i64 0, .int .i64 0] := V.newAt _ _ _ _ (by simp)
  obtain ⟨s_VX, f_VX, z_VX⟩ := VX.open
  obtain ⟨s_VR, f_VR, z_VR⟩ := VR.open
  obtain ⟨s_VO, f_VO, z_VO⟩ := VO.open
  go_wp2_with fail
  refine (toRange_ok x.a x.b _).mono ?_
  rintro e w1 ⟨rfl, b1⟩
  clear s_VX f_VX z_VX s_VR f_VR z_VR s_VO f_VO z_VO
  have S1 := b1.size
  simp only [World.size_alloc] at S1
  replace VX := VX.kept b1
  replace VR := VR.kept b1
  replace VO := VO.kept b1
  replace B := thenB B b1
  clear b1
  obtain ⟨s_VX, f_VX, z_VX⟩ := VX.open
  obtain ⟨s_VR, f_VR, z_VR⟩ := VR.open
  obtain ⟨s_VO, f_VO, z_VO⟩ := VO.open
  have Bo := B
  replace VX := VX.other (p := ⟨w.heap.size + 1 + 1, 0, none⟩) (by (try simp); (try omega)) (.int .i64 x.a)
  replace VR := VR.other (p := ⟨w.heap.size + 1 + 1, 0, none⟩) (by (try simp); (try omega)) (.int .i64 x.a)
  replace VO := VO.set (i := 0) (by simp) (.int .i64 x.a)
  simp only [List.set_cons_zero] at VO
  replace B := B.setCell (p := ⟨w.heap.size + 1 + 1, 0, none⟩) (by (try simp); (try omega)) (.int .i64 x.a)
  replace VX := VX.other (p := ⟨w.heap.size + 1 + 1, 1, none⟩) (by (try simp); (try omega)) (.int .i64 x.b)
  replace VR := VR.other (p := ⟨w.heap.size + 1 + 1, 1, none⟩) (by (try simp); (try omega)) (.int .i64 x.b)
  replace VO := VO.set (i := 1) (by simp) (.int .i64 x.b)
  simp only [List.set_cons_zero, List.set_cons_succ] at VO
  replace B := B.setCell (p := ⟨w.heap.size + 1 + 1, 1, none⟩) (by (try simp); (try omega)) (.int .i64 x.b)
  go_wp2_with fail
  refine (toRange_ok x.c x.d _).mono ?_
  rintro e w2 ⟨rfl, b2⟩
  clear s_VX f_VX z_VX s_VR f_VR z_VR s_VO f_VO z_VO
  have S2 := b2.size
  simp only [World.size_setCell] at S2
  replace VX := VX.kept b2
  replace VR := VR.kept b2
  replace VO := VO.kept b2
  replace B := thenB B b2
  clear b2
  obtain ⟨s_VX, f_VX, z_VX⟩ := VX.open
  obtain ⟨s_VR, f_VR, z_VR⟩ := VR.open
  obtain ⟨s_VO, f_VO, z_VO⟩ := VO.open
  have Bo := B
  replace VX := VX.other (p := ⟨w.heap.size + 1 + 1, 2, none⟩) (by (try simp); (try omega)) (.int .i64 x.c)
  replace VR := VR.other (p := ⟨w.heap.size + 1 + 1, 2, none⟩) (by (try simp); (try omega)) (.int .i64 x.c)
  replace VO := VO.set (i := 2) (by simp) (.int .i64 x.c)
  simp only [List.set_cons_zero, List.set_cons_succ] at VO
  replace B := B.setCell (p := ⟨w.heap.size + 1 + 1, 2, none⟩) (by (try simp); (try omega)) (.int .i64 x.c)
  replace VX := VX.other (p := ⟨w.heap.size + 1 + 1, 3, none⟩) (by (try simp); (try omega)) (.int .i64 x.d)
  replace VR := VR.other (p := ⟨w.heap.size + 1 + 1, 3, none⟩) (by (try simp); (try omega)) (.int .i64 x.d)
  replace VO := VO.set (i := 3) (by simp) (.int .i64 x.d)
  simp only [List.set_cons_zero, List.set_cons_succ] at VO
  replace B := B.setCell (p := ⟨w.heap.size + 1 + 1, 3, none⟩) (by (try simp); (try omega)) (.int .i64 x.d)
  go_wp2_with fail
  refine (toRange_ok x.e x.f _).mono ?_
  rintro e w3 ⟨rfl, b3⟩
  clear s_VX f_VX z_VX s_VR f_VR z_VR s_VO f_VO z_VO
  have S3 := b3.size
  simp only [World.size_setCell] at S3
  replace VX := VX.kept b3
  replace VR := VR.kept b3
  replace VO := VO.kept b3
  replace B := thenB B b3
  clear b3
  obtain ⟨s_VX, f_VX, z_VX⟩ := VX.open
  obtain ⟨s_VR, f_VR, z_VR⟩ := VR.open
  obtain ⟨s_VO, f_VO, z_VO⟩ := VO.open
  have Bo := B
  replace VX := VX.other (p := ⟨w.heap.size + 1 + 1, 4, none⟩) (by (try simp); (try omega)) (.int .i64 x.e)
  replace VR := VR.other (p := ⟨w.heap.size + 1 + 1, 4, none⟩) (by (try simp); (try omega)) (.int .i64 x.e)
  replace VO := VO.set (i := 4) (by simp) (.int .i64 x.e)
  simp only [List.set_cons_zero, List.set_cons_succ] at VO
  replace B := B.setCell (p := ⟨w.heap.size + 1 + 1, 4, none⟩) (by (try simp); (try omega)) (.int .i64 x.e)
  replace VX := VX.other (p := ⟨w.heap.size + 1 + 1, 5, none⟩) (by (try simp); (try omega)) (.int .i64 x.f)
  replace VR := VR.other (p := ⟨w.heap.size + 1 + 1, 5, none⟩) (by (try simp); (try omega)) (.int .i64 x.f)
  replace VO := VO.set (i := 5) (by simp) (.int .i64 x.f)
  simp only [List.set_cons_zero, List.set_cons_succ] at VO
  replace B := B.setCell (p := ⟨w.heap.size + 1 + 1, 5, none⟩) (by (try simp); (try omega)) (.int .i64 x.f)
  go_wp2_with fail
  refine (toRange_ok x.g x.h _).mono ?_
  rintro e w4 ⟨rfl, b4⟩
  clear s_VX f_VX z_VX s_VR f_VR z_VR s_VO f_VO z_VO
  have S4 := b4.size
  simp only [World.size_setCell] at S4
  replace VX := VX.kept b4
  replace VR := VR.kept b4
  replace VO := VO.kept b4
  replace B := thenB B b4
  clear b4
  obtain ⟨s_VX, f_VX, z_VX⟩ := VX.open
  obtain ⟨s_VR, f_VR, z_VR⟩ := VR.open
  obtain ⟨s_VO, f_VO, z_VO⟩ := VO.open
  have Bo := B
  go_wp2
  refine bodyPost_ret (v := .agg #[.int .i64 x.a, .int .i64 x.b, .int .i64 x.c, .int .i64 x.d, .int .i64 x.e, .int .i64 x.f, .int .i64 x.g, .int .i64 x.h, .int .i64 x.r]) (by simp [results, Tryd.results121, go_sem, f_VR]) rfl ⟨rfl, ?_⟩
  repeat' first | with_reducible exact Bo | with_reducible refine Below.setCell ?_ ?_ _ | with_reducible refine Below.alloc ?_ ?_ _ | (simp; try omega)

set_option maxHeartbeats 1000000 in
theorem eqRange_ok (l h : Int) (w : World) :
    Calls Tryd.prog 145 #[.agg #[.int .i64 l, .int .i64 h], .agg #[.int .i64 l, .int .i64 h]] w fun e w' => e = .returned (.bool true) ∧ Below w.heap.size w w' := by
  go_enter Tryd.func145, Tryd.ntmps145
  go_wp2
  go_ret
  exact ⟨rfl, belowA2 _ _ _⟩

set_option maxHeartbeats 2000000 in
theorem eqSel_ok (x : S9) (w : World) :
    Calls Tryd.prog 122 #[.agg #[.int .i64 x.a, .int .i64 x.b, .int .i64 x.c, .int .i64 x.d, .int .i64 x.e, .int .i64 x.f, .int .i64 x.g, .int .i64 x.h, .int .i64 x.r], .agg #[.int .i64 x.a, .int .i64 x.b, .int .i64 x.c, .int .i64 x.d, .int .i64 x.e, .int .i64 x.f, .int .i64 x.g, .int .i64 x.h, .int .i64 x.r]] w fun e w' => e = .returned (.bool true) ∧ Below w.heap.size w w' := by
  go_enter Tryd.func122, Tryd.ntmps122
  have B := Below.refl w.heap.size w
  replace B := thenB B (belowA w (.cells #[.int .i64 x.a, .int .i64 x.b, .int .i64 x.c, .int .i64 x.d, .int .i64 x.e, .int .i64 x.f, .int .i64 x.g, .int .i64 x.h, .int .i64 x.r] 32))
  have VX := V.new w [.int .i64 x.a, .int .i64 x.b, .int .i64 x.c, .int .i64 x.d, .int .i64 x.e, .int .i64 x.f, .int .i64 x.g, .int .i64 x.h, .int .i64 x.r] 32
  replace VX := VX.kept (belowA (w.alloc (.cells #[.int .i64 x.a, .int .i64 x.b, .int .i64 x.c, .int .i64 x.d, .int .i64 x.e, .int .i64 x.f, .int .i64 x.g, .int .i64 x.h, .int .i64 x.r] 32)) (.cells #[.int .i64 x.a, .int .i64 x.b, .int .i64 x.c, .int .i64 x.d, .int .i64 x.e, .int .i64 x.f, .int .i64 x.g, .int .i64 x.h, .int .i64 x.r] 32))
  replace B := thenB B (belowA (w.alloc (.cells #[.int .i64 x.a, .int .i64 x.b, .int .i64 x.c, .int .i64 x.d, .int .i64 x.e, .int .i64 x.f, .int .i64 x.g, .int .i64 x.h, .int .i64 x.r] 32)) (.cells #[.int .i64 x.a, .int .i64 x.b, .int .i64 x.c, .int .i64 x.d, .int .i64 x.e, .int .i64 x.f, .int .i64 x.g, .int .i64 x.h, .int .i64 x.r] 32))
  have VY : V ((w.alloc (.cells #[.int .i64 x.a, .int .i64 x.b, .int .i64 x.c, .int .i64 x.d, .int .i64 x.e, .int .i64 x.f, .int .i64 x.g, .int .i64 x.h, .int .i64 x.r] 32)).alloc (.cells #[.int .i64 x.a, .int .i64 x.b, .int .i64 x.c, .int .i64 x.d, .int .i64 x.e, .int .i64 x.f, .int .i64 x.g, .int .i64 x.h, .int .i64 x.r] 32)) (w.heap.size + 1) [.int .i64 x.a, .int .i64 x.b, .int .i64 x.c, .int .i64 x.d, .int .i64 x.e, .int .i64 x.f, .int .i64 x.g, .int .i64 x.h, .int .i64 x.r] := V.newAt _ _ _ _ (by simp)
  obtain ⟨s_VX, f_VX, z_VX⟩ := VX.open
  obtain ⟨s_VY, f_VY, z_VY⟩ := VY.open
  go_wp2_with fail
  refine (eqRange_ok x.a x.b _).mono ?_
  rintro e w1 ⟨rfl, b1⟩
  clear s_VX f_VX z_VX s_VY f_VY z_VY
  have S1 := b1.size
  simp only [World.size_alloc] at S1
  replace VX := VX.kept b1
  replace VY := VY.kept b1
  replace B := thenB B b1
  clear b1
  obtain ⟨s_VX, f_VX, z_VX⟩ := VX.open
  obtain ⟨s_VY, f_VY, z_VY⟩ := VY.open
  have Bo := B
  go_wp2_with fail
  refine (eqRange_ok x.c x.d _).mono ?_
  rintro e w2 ⟨rfl, b2⟩
  clear s_VX f_VX z_VX s_VY f_VY z_VY
  have S2 := b2.size
  replace VX := VX.kept b2
  replace VY := VY.kept b2
  replace B := thenB B b2
  clear b2
  obtain ⟨s_VX, f_VX, z_VX⟩ := VX.open
  obtain ⟨s_VY, f_VY, z_VY⟩ := VY.open
  have Bo := B
  go_wp2_with fail
  refine (eqRange_ok x.e x.f _).mono ?_
  rintro e w3 ⟨rfl, b3⟩
  clear s_VX f_VX z_VX s_VY f_VY z_VY
  have S3 := b3.size
  replace VX := VX.kept b3
  replace VY := VY.kept b3
  replace B := thenB B b3
  clear b3
  obtain ⟨s_VX, f_VX, z_VX⟩ := VX.open
  obtain ⟨s_VY, f_VY, z_VY⟩ := VY.open
  have Bo := B
  go_wp2_with fail
  refine (eqRange_ok x.g x.h _).mono ?_
  rintro e w4 ⟨rfl, b4⟩
  clear s_VX f_VX z_VX s_VY f_VY z_VY
  have S4 := b4.size
  replace VX := VX.kept b4
  replace VY := VY.kept b4
  replace B := thenB B b4
  clear b4
  obtain ⟨s_VX, f_VX, z_VX⟩ := VX.open
  obtain ⟨s_VY, f_VY, z_VY⟩ := VY.open
  have Bo := B
  go_wp2
  go_ret
  exact ⟨rfl, Bo⟩

end Go.Proofs.YtngkahchhioncaaDoor
