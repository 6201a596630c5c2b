/- The fault of a policy: the program. -/
import Derived.Test.YtngkahchhioncaaDoorPolA
import Derived.Test.YtngkahchhioncaaDoorSelF
import Derived.Test.YtngkahchhioncaaDoorFill
import Derived.Deep.DeepCutAuto
namespace Go.Proofs.YtngkahchhioncaaDoor
open Go.RowKit

theorem isAction_ok (p : Int) (w : World) :
    Calls Tryd.prog 116 #[.int .i64 p] w fun e w' => e = .returned (.bool (btw p 1 3)) ∧ w' = w := by
  go_enter Tryd.func116, Tryd.ntmps116
  go_wp2_with fail
  refine (isBetween_ok _ _ _ _).mono ?_
  rintro e w1 ⟨rfl, rfl⟩
  go_wp2
  go_ret
  exact ⟨rfl, rfl⟩

theorem isNoPeer_ok (q : Int) (w : World) :
    Calls Tryd.prog 141 #[.int .i64 q] w fun e w' => e = .returned (.bool (q == 0)) ∧ w' = w := by
  go_enter Tryd.func141, Tryd.ntmps141
  go_wp2
  go_ret
  exact ⟨rfl, rfl⟩

theorem isPeer_ok (q : Int) (w : World) :
    Calls Tryd.prog 93 #[.int .i64 q] w fun e w' => e = .returned (.bool (btw q 1 9)) ∧ w' = w := by
  go_enter Tryd.func93, Tryd.ntmps93
  go_wp2_with fail
  refine (isBetween_ok _ _ _ _).mono ?_
  rintro e w1 ⟨rfl, rfl⟩
  go_wp2
  go_ret
  exact ⟨rfl, rfl⟩

/-- What sets an action apart. -/
def kiV (p : Int) : Value := if p = 1 then .agg #[.string { data := #[100, 114, 111, 112] }, .func (.func 141) #[] #[], .func (.func 142) #[] #[]] else if p = 2 then .agg #[.string { data := #[112, 97, 115, 115] }, .func (.func 141) #[] #[], .func (.func 142) #[] #[]] else .agg #[.string { data := #[115, 101, 97, 108] }, .func (.func 93) #[] #[], .func (.func 143) #[] #[]]

set_option maxRecDepth 20000 in
set_option maxHeartbeats 1000000 in
theorem kindOf_drop (w : World) :
    Calls Tryd.prog 117 #[.int .i64 1] w fun e w' => e = .returned (.agg #[.string { data := #[100, 114, 111, 112] }, .func (.func 141) #[] #[], .func (.func 142) #[] #[]]) ∧ Below w.heap.size w w' := by
  go_enter Tryd.func117, Tryd.ntmps117
  have B := Below.refl w.heap.size w
  replace B := thenB B (belowA w (.cells #[.string { data := #[] }, .nilFunc, .nilFunc] 156))
  have VR := V.new w [.string { data := #[] }, .nilFunc, .nilFunc] 156
  replace VR := VR.kept (belowA (w.alloc (.cells #[.string { data := #[] }, .nilFunc, .nilFunc] 156)) (.cells #[.string { data := #[] }, .nilFunc, .nilFunc, .string { data := #[] }, .nilFunc, .nilFunc, .string { data := #[] }, .nilFunc, .nilFunc, .string { data := #[] }, .nilFunc, .nilFunc] 170))
  replace B := thenB B (belowA (w.alloc (.cells #[.string { data := #[] }, .nilFunc, .nilFunc] 156)) (.cells #[.string { data := #[] }, .nilFunc, .nilFunc, .string { data := #[] }, .nilFunc, .nilFunc, .string { data := #[] }, .nilFunc, .nilFunc, .string { data := #[] }, .nilFunc, .nilFunc] 170))
  have VK : V ((w.alloc (.cells #[.string { data := #[] }, .nilFunc, .nilFunc] 156)).alloc (.cells #[.string { data := #[] }, .nilFunc, .nilFunc, .string { data := #[] }, .nilFunc, .nilFunc, .string { data := #[] }, .nilFunc, .nilFunc, .string { data := #[] }, .nilFunc, .nilFunc] 170)) (w.heap.size + 1) [.string { data := #[] }, .nilFunc, .nilFunc, .string { data := #[] }, .nilFunc, .nilFunc, .string { data := #[] }, .nilFunc, .nilFunc, .string { data := #[] }, .nilFunc, .nilFunc] := V.newAt _ _ _ _ (by simp)
  obtain ⟨s_VR, f_VR, z_VR⟩ := VR.open
  obtain ⟨s_VK, f_VK, z_VK⟩ := VK.open
  have HT := Hid.mk VK.there
  have VF := VK.filled [.string { data := #[] }, .nilFunc, .nilFunc, .string { data := #[100, 114, 111, 112] }, .func (.func 141) #[] #[], .func (.func 142) #[] #[], .string { data := #[112, 97, 115, 115] }, .func (.func 141) #[] #[], .func (.func 142) #[] #[], .string { data := #[115, 101, 97, 108] }, .func (.func 93) #[] #[], .func (.func 143) #[] #[]] rfl
  have VR6 := VR.apart (B := w.heap.size + 1) (by omega) 0 [.string { data := #[] }, .nilFunc, .nilFunc, .string { data := #[100, 114, 111, 112] }, .func (.func 141) #[] #[], .func (.func 142) #[] #[], .string { data := #[112, 97, 115, 115] }, .func (.func 141) #[] #[], .func (.func 142) #[] #[], .string { data := #[115, 101, 97, 108] }, .func (.func 93) #[] #[], .func (.func 143) #[] #[]]
  have B6 := belowCells B (show w.heap.size ≤ w.heap.size + 1 by omega) 0 [.string { data := #[] }, .nilFunc, .nilFunc, .string { data := #[100, 114, 111, 112] }, .func (.func 141) #[] #[], .func (.func 142) #[] #[], .string { data := #[112, 97, 115, 115] }, .func (.func 141) #[] #[], .func (.func 142) #[] #[], .string { data := #[115, 101, 97, 108] }, .func (.func 93) #[] #[], .func (.func 143) #[] #[]]
  obtain ⟨w6, hw6⟩ : ∃ w6, ((w.alloc (.cells #[.string { data := #[] }, .nilFunc, .nilFunc] 156)).alloc (.cells #[.string { data := #[] }, .nilFunc, .nilFunc, .string { data := #[] }, .nilFunc, .nilFunc, .string { data := #[] }, .nilFunc, .nilFunc, .string { data := #[] }, .nilFunc, .nilFunc] 170)).setCells (w.heap.size + 1) 0 [.string { data := #[] }, .nilFunc, .nilFunc, .string { data := #[100, 114, 111, 112] }, .func (.func 141) #[] #[], .func (.func 142) #[] #[], .string { data := #[112, 97, 115, 115] }, .func (.func 141) #[] #[], .func (.func 142) #[] #[], .string { data := #[115, 101, 97, 108] }, .func (.func 93) #[] #[], .func (.func 143) #[] #[]] = w6 := ⟨_, rfl⟩
  rw [hw6] at VF VR6 B6
  replace hw6 := Hid.mk hw6
  replace VF := Hid.mk VF
  replace VR6 := Hid.mk VR6
  replace B6 := Hid.mk B6
  go_upto_region 2 with (refine wpList_stroke w6 rfl 170 _ _ rfl (w.heap.size + 1) 0 #[.string { data := #[] }, .nilFunc, .nilFunc, .string { data := #[100, 114, 111, 112] }, .func (.func 141) #[] #[], .func (.func 142) #[] #[], .string { data := #[112, 97, 115, 115] }, .func (.func 141) #[] #[], .func (.func 142) #[] #[], .string { data := #[115, 101, 97, 108] }, .func (.func 93) #[] #[], .func (.func 143) #[] #[]] rfl rfl HT.out (by kernel_rfl) (by kernel_rfl) hw6.out ?_)
  clear s_VR f_VR z_VR s_VK f_VK z_VK
  clear VR VK B HT hw6
  replace VK := VF.out
  replace VR := VR6.out
  replace B := B6.out
  clear VF VR6 B6
  have VG := Hid.mk (VR.filled [.string { data := #[100, 114, 111, 112] }, .func (.func 141) #[] #[], .func (.func 142) #[] #[]] rfl)
  have BR := belowCells B (show w.heap.size ≤ w.heap.size by omega) 0 [.string { data := #[100, 114, 111, 112] }, .func (.func 141) #[] #[], .func (.func 142) #[] #[]]
  have HT := Hid.mk VR.there
  replace BR := Hid.mk BR
  obtain ⟨s_VR, f_VR, z_VR⟩ := VR.open
  obtain ⟨s_VK, f_VK, z_VK⟩ := VK.open
  go_wp2_with (refine wpList_store_mid rfl 156 _ _ rfl (w.heap.size) 0 #[.string { data := #[100, 114, 111, 112] }, .func (.func 141) #[] #[], .func (.func 142) #[] #[]] rfl rfl HT.out (by kernel_rfl) (by kernel_rfl) ?_)
  exact bodyPost_ret (v := .agg #[.string { data := #[100, 114, 111, 112] }, .func (.func 141) #[] #[], .func (.func 142) #[] #[]]) (results_row Tryd.results117 _ _ (w.heap.size) [.string { data := #[100, 114, 111, 112] }, .func (.func 141) #[] #[], .func (.func 142) #[] #[]] _ rfl VG.out Tryd.underlying156 rfl (by kernel_rfl)) rfl ⟨rfl, BR.out⟩

set_option maxRecDepth 20000 in
set_option maxHeartbeats 1000000 in
theorem kindOf_pass (w : World) :
    Calls Tryd.prog 117 #[.int .i64 2] w fun e w' => e = .returned (.agg #[.string { data := #[112, 97, 115, 115] }, .func (.func 141) #[] #[], .func (.func 142) #[] #[]]) ∧ Below w.heap.size w w' := by
  go_enter Tryd.func117, Tryd.ntmps117
  have B := Below.refl w.heap.size w
  replace B := thenB B (belowA w (.cells #[.string { data := #[] }, .nilFunc, .nilFunc] 156))
  have VR := V.new w [.string { data := #[] }, .nilFunc, .nilFunc] 156
  replace VR := VR.kept (belowA (w.alloc (.cells #[.string { data := #[] }, .nilFunc, .nilFunc] 156)) (.cells #[.string { data := #[] }, .nilFunc, .nilFunc, .string { data := #[] }, .nilFunc, .nilFunc, .string { data := #[] }, .nilFunc, .nilFunc, .string { data := #[] }, .nilFunc, .nilFunc] 170))
  replace B := thenB B (belowA (w.alloc (.cells #[.string { data := #[] }, .nilFunc, .nilFunc] 156)) (.cells #[.string { data := #[] }, .nilFunc, .nilFunc, .string { data := #[] }, .nilFunc, .nilFunc, .string { data := #[] }, .nilFunc, .nilFunc, .string { data := #[] }, .nilFunc, .nilFunc] 170))
  have VK : V ((w.alloc (.cells #[.string { data := #[] }, .nilFunc, .nilFunc] 156)).alloc (.cells #[.string { data := #[] }, .nilFunc, .nilFunc, .string { data := #[] }, .nilFunc, .nilFunc, .string { data := #[] }, .nilFunc, .nilFunc, .string { data := #[] }, .nilFunc, .nilFunc] 170)) (w.heap.size + 1) [.string { data := #[] }, .nilFunc, .nilFunc, .string { data := #[] }, .nilFunc, .nilFunc, .string { data := #[] }, .nilFunc, .nilFunc, .string { data := #[] }, .nilFunc, .nilFunc] := V.newAt _ _ _ _ (by simp)
  obtain ⟨s_VR, f_VR, z_VR⟩ := VR.open
  obtain ⟨s_VK, f_VK, z_VK⟩ := VK.open
  have HT := Hid.mk VK.there
  have VF := VK.filled [.string { data := #[] }, .nilFunc, .nilFunc, .string { data := #[100, 114, 111, 112] }, .func (.func 141) #[] #[], .func (.func 142) #[] #[], .string { data := #[112, 97, 115, 115] }, .func (.func 141) #[] #[], .func (.func 142) #[] #[], .string { data := #[115, 101, 97, 108] }, .func (.func 93) #[] #[], .func (.func 143) #[] #[]] rfl
  have VR6 := VR.apart (B := w.heap.size + 1) (by omega) 0 [.string { data := #[] }, .nilFunc, .nilFunc, .string { data := #[100, 114, 111, 112] }, .func (.func 141) #[] #[], .func (.func 142) #[] #[], .string { data := #[112, 97, 115, 115] }, .func (.func 141) #[] #[], .func (.func 142) #[] #[], .string { data := #[115, 101, 97, 108] }, .func (.func 93) #[] #[], .func (.func 143) #[] #[]]
  have B6 := belowCells B (show w.heap.size ≤ w.heap.size + 1 by omega) 0 [.string { data := #[] }, .nilFunc, .nilFunc, .string { data := #[100, 114, 111, 112] }, .func (.func 141) #[] #[], .func (.func 142) #[] #[], .string { data := #[112, 97, 115, 115] }, .func (.func 141) #[] #[], .func (.func 142) #[] #[], .string { data := #[115, 101, 97, 108] }, .func (.func 93) #[] #[], .func (.func 143) #[] #[]]
  obtain ⟨w6, hw6⟩ : ∃ w6, ((w.alloc (.cells #[.string { data := #[] }, .nilFunc, .nilFunc] 156)).alloc (.cells #[.string { data := #[] }, .nilFunc, .nilFunc, .string { data := #[] }, .nilFunc, .nilFunc, .string { data := #[] }, .nilFunc, .nilFunc, .string { data := #[] }, .nilFunc, .nilFunc] 170)).setCells (w.heap.size + 1) 0 [.string { data := #[] }, .nilFunc, .nilFunc, .string { data := #[100, 114, 111, 112] }, .func (.func 141) #[] #[], .func (.func 142) #[] #[], .string { data := #[112, 97, 115, 115] }, .func (.func 141) #[] #[], .func (.func 142) #[] #[], .string { data := #[115, 101, 97, 108] }, .func (.func 93) #[] #[], .func (.func 143) #[] #[]] = w6 := ⟨_, rfl⟩
  rw [hw6] at VF VR6 B6
  replace hw6 := Hid.mk hw6
  replace VF := Hid.mk VF
  replace VR6 := Hid.mk VR6
  replace B6 := Hid.mk B6
  go_upto_region 2 with (refine wpList_stroke w6 rfl 170 _ _ rfl (w.heap.size + 1) 0 #[.string { data := #[] }, .nilFunc, .nilFunc, .string { data := #[100, 114, 111, 112] }, .func (.func 141) #[] #[], .func (.func 142) #[] #[], .string { data := #[112, 97, 115, 115] }, .func (.func 141) #[] #[], .func (.func 142) #[] #[], .string { data := #[115, 101, 97, 108] }, .func (.func 93) #[] #[], .func (.func 143) #[] #[]] rfl rfl HT.out (by kernel_rfl) (by kernel_rfl) hw6.out ?_)
  clear s_VR f_VR z_VR s_VK f_VK z_VK
  clear VR VK B HT hw6
  replace VK := VF.out
  replace VR := VR6.out
  replace B := B6.out
  clear VF VR6 B6
  have VG := Hid.mk (VR.filled [.string { data := #[112, 97, 115, 115] }, .func (.func 141) #[] #[], .func (.func 142) #[] #[]] rfl)
  have BR := belowCells B (show w.heap.size ≤ w.heap.size by omega) 0 [.string { data := #[112, 97, 115, 115] }, .func (.func 141) #[] #[], .func (.func 142) #[] #[]]
  have HT := Hid.mk VR.there
  replace BR := Hid.mk BR
  obtain ⟨s_VR, f_VR, z_VR⟩ := VR.open
  obtain ⟨s_VK, f_VK, z_VK⟩ := VK.open
  go_wp2_with (refine wpList_store_mid rfl 156 _ _ rfl (w.heap.size) 0 #[.string { data := #[112, 97, 115, 115] }, .func (.func 141) #[] #[], .func (.func 142) #[] #[]] rfl rfl HT.out (by kernel_rfl) (by kernel_rfl) ?_)
  exact bodyPost_ret (v := .agg #[.string { data := #[112, 97, 115, 115] }, .func (.func 141) #[] #[], .func (.func 142) #[] #[]]) (results_row Tryd.results117 _ _ (w.heap.size) [.string { data := #[112, 97, 115, 115] }, .func (.func 141) #[] #[], .func (.func 142) #[] #[]] _ rfl VG.out Tryd.underlying156 rfl (by kernel_rfl)) rfl ⟨rfl, BR.out⟩

set_option maxRecDepth 20000 in
set_option maxHeartbeats 1000000 in
theorem kindOf_seal (w : World) :
    Calls Tryd.prog 117 #[.int .i64 3] w fun e w' => e = .returned (.agg #[.string { data := #[115, 101, 97, 108] }, .func (.func 93) #[] #[], .func (.func 143) #[] #[]]) ∧ Below w.heap.size w w' := by
  go_enter Tryd.func117, Tryd.ntmps117
  have B := Below.refl w.heap.size w
  replace B := thenB B (belowA w (.cells #[.string { data := #[] }, .nilFunc, .nilFunc] 156))
  have VR := V.new w [.string { data := #[] }, .nilFunc, .nilFunc] 156
  replace VR := VR.kept (belowA (w.alloc (.cells #[.string { data := #[] }, .nilFunc, .nilFunc] 156)) (.cells #[.string { data := #[] }, .nilFunc, .nilFunc, .string { data := #[] }, .nilFunc, .nilFunc, .string { data := #[] }, .nilFunc, .nilFunc, .string { data := #[] }, .nilFunc, .nilFunc] 170))
  replace B := thenB B (belowA (w.alloc (.cells #[.string { data := #[] }, .nilFunc, .nilFunc] 156)) (.cells #[.string { data := #[] }, .nilFunc, .nilFunc, .string { data := #[] }, .nilFunc, .nilFunc, .string { data := #[] }, .nilFunc, .nilFunc, .string { data := #[] }, .nilFunc, .nilFunc] 170))
  have VK : V ((w.alloc (.cells #[.string { data := #[] }, .nilFunc, .nilFunc] 156)).alloc (.cells #[.string { data := #[] }, .nilFunc, .nilFunc, .string { data := #[] }, .nilFunc, .nilFunc, .string { data := #[] }, .nilFunc, .nilFunc, .string { data := #[] }, .nilFunc, .nilFunc] 170)) (w.heap.size + 1) [.string { data := #[] }, .nilFunc, .nilFunc, .string { data := #[] }, .nilFunc, .nilFunc, .string { data := #[] }, .nilFunc, .nilFunc, .string { data := #[] }, .nilFunc, .nilFunc] := V.newAt _ _ _ _ (by simp)
  obtain ⟨s_VR, f_VR, z_VR⟩ := VR.open
  obtain ⟨s_VK, f_VK, z_VK⟩ := VK.open
  have HT := Hid.mk VK.there
  have VF := VK.filled [.string { data := #[] }, .nilFunc, .nilFunc, .string { data := #[100, 114, 111, 112] }, .func (.func 141) #[] #[], .func (.func 142) #[] #[], .string { data := #[112, 97, 115, 115] }, .func (.func 141) #[] #[], .func (.func 142) #[] #[], .string { data := #[115, 101, 97, 108] }, .func (.func 93) #[] #[], .func (.func 143) #[] #[]] rfl
  have VR6 := VR.apart (B := w.heap.size + 1) (by omega) 0 [.string { data := #[] }, .nilFunc, .nilFunc, .string { data := #[100, 114, 111, 112] }, .func (.func 141) #[] #[], .func (.func 142) #[] #[], .string { data := #[112, 97, 115, 115] }, .func (.func 141) #[] #[], .func (.func 142) #[] #[], .string { data := #[115, 101, 97, 108] }, .func (.func 93) #[] #[], .func (.func 143) #[] #[]]
  have B6 := belowCells B (show w.heap.size ≤ w.heap.size + 1 by omega) 0 [.string { data := #[] }, .nilFunc, .nilFunc, .string { data := #[100, 114, 111, 112] }, .func (.func 141) #[] #[], .func (.func 142) #[] #[], .string { data := #[112, 97, 115, 115] }, .func (.func 141) #[] #[], .func (.func 142) #[] #[], .string { data := #[115, 101, 97, 108] }, .func (.func 93) #[] #[], .func (.func 143) #[] #[]]
  obtain ⟨w6, hw6⟩ : ∃ w6, ((w.alloc (.cells #[.string { data := #[] }, .nilFunc, .nilFunc] 156)).alloc (.cells #[.string { data := #[] }, .nilFunc, .nilFunc, .string { data := #[] }, .nilFunc, .nilFunc, .string { data := #[] }, .nilFunc, .nilFunc, .string { data := #[] }, .nilFunc, .nilFunc] 170)).setCells (w.heap.size + 1) 0 [.string { data := #[] }, .nilFunc, .nilFunc, .string { data := #[100, 114, 111, 112] }, .func (.func 141) #[] #[], .func (.func 142) #[] #[], .string { data := #[112, 97, 115, 115] }, .func (.func 141) #[] #[], .func (.func 142) #[] #[], .string { data := #[115, 101, 97, 108] }, .func (.func 93) #[] #[], .func (.func 143) #[] #[]] = w6 := ⟨_, rfl⟩
  rw [hw6] at VF VR6 B6
  replace hw6 := Hid.mk hw6
  replace VF := Hid.mk VF
  replace VR6 := Hid.mk VR6
  replace B6 := Hid.mk B6
  go_upto_region 2 with (refine wpList_stroke w6 rfl 170 _ _ rfl (w.heap.size + 1) 0 #[.string { data := #[] }, .nilFunc, .nilFunc, .string { data := #[100, 114, 111, 112] }, .func (.func 141) #[] #[], .func (.func 142) #[] #[], .string { data := #[112, 97, 115, 115] }, .func (.func 141) #[] #[], .func (.func 142) #[] #[], .string { data := #[115, 101, 97, 108] }, .func (.func 93) #[] #[], .func (.func 143) #[] #[]] rfl rfl HT.out (by kernel_rfl) (by kernel_rfl) hw6.out ?_)
  clear s_VR f_VR z_VR s_VK f_VK z_VK
  clear VR VK B HT hw6
  replace VK := VF.out
  replace VR := VR6.out
  replace B := B6.out
  clear VF VR6 B6
  have VG := Hid.mk (VR.filled [.string { data := #[115, 101, 97, 108] }, .func (.func 93) #[] #[], .func (.func 143) #[] #[]] rfl)
  have BR := belowCells B (show w.heap.size ≤ w.heap.size by omega) 0 [.string { data := #[115, 101, 97, 108] }, .func (.func 93) #[] #[], .func (.func 143) #[] #[]]
  have HT := Hid.mk VR.there
  replace BR := Hid.mk BR
  obtain ⟨s_VR, f_VR, z_VR⟩ := VR.open
  obtain ⟨s_VK, f_VK, z_VK⟩ := VK.open
  go_wp2_with (refine wpList_store_mid rfl 156 _ _ rfl (w.heap.size) 0 #[.string { data := #[115, 101, 97, 108] }, .func (.func 93) #[] #[], .func (.func 143) #[] #[]] rfl rfl HT.out (by kernel_rfl) (by kernel_rfl) ?_)
  exact bodyPost_ret (v := .agg #[.string { data := #[115, 101, 97, 108] }, .func (.func 93) #[] #[], .func (.func 143) #[] #[]]) (results_row Tryd.results117 _ _ (w.heap.size) [.string { data := #[115, 101, 97, 108] }, .func (.func 93) #[] #[], .func (.func 143) #[] #[]] _ rfl VG.out Tryd.underlying156 rfl (by kernel_rfl)) rfl ⟨rfl, BR.out⟩

set_option maxRecDepth 20000 in
set_option maxHeartbeats 4000000 in
theorem ruleFault_ok (x : R11) (w : World) :
    Calls Tryd.prog 76 #[.agg #[.int .i64 x.s.a, .int .i64 x.s.b, .int .i64 x.s.c, .int .i64 x.s.d, .int .i64 x.s.e, .int .i64 x.s.f, .int .i64 x.s.g, .int .i64 x.s.h, .int .i64 x.s.r, .int .i64 x.p, .int .i64 x.q]] w fun e w' => e = .returned (.int .i64 (ruC x)) ∧ Below w.heap.size w w' := by
  have CX := Hid.mk (fun w => implSelFault_ok x.s w)
  have CK1 := Hid.mk kindOf_drop
  have CK2 := Hid.mk kindOf_pass
  have CK3 := Hid.mk kindOf_seal
  have f1 : ∀ (w : World), (Instr.field 156 (.agg #[.string { data := #[100, 114, 111, 112] }, .func (.func 141) #[] #[], .func (.func 142) #[] #[]]) 1).run Tryd.prog w = .ok (.func (.func 141) #[] #[]) w := fun w => by kernel_rfl
  have f2 : ∀ (w : World), (Instr.field 156 (.agg #[.string { data := #[112, 97, 115, 115] }, .func (.func 141) #[] #[], .func (.func 142) #[] #[]]) 1).run Tryd.prog w = .ok (.func (.func 141) #[] #[]) w := fun w => by kernel_rfl
  have f3 : ∀ (w : World), (Instr.field 156 (.agg #[.string { data := #[115, 101, 97, 108] }, .func (.func 93) #[] #[], .func (.func 143) #[] #[]]) 1).run Tryd.prog w = .ok (.func (.func 93) #[] #[]) w := fun w => by kernel_rfl
  rcases ru_ways x with ⟨h1, hr, h2⟩ | ⟨h1, h2, hr⟩ | ⟨h1, h2, h3, h4, hr⟩ | ⟨h1, h2, h3, h4, hr⟩ | ⟨h1, h2, h3, h4, hr⟩ | ⟨h1, h2, h3, h4, hr⟩
  · rw [hr]
    clear hr
    generalize sfC x.s = c at *
    go_enter Tryd.func76, Tryd.ntmps76
    have B := Below.refl w.heap.size w
    replace B := thenB B (belowA w (.cells #[.int .i64 x.s.a, .int .i64 x.s.b, .int .i64 x.s.c, .int .i64 x.s.d, .int .i64 x.s.e, .int .i64 x.s.f, .int .i64 x.s.g, .int .i64 x.s.h, .int .i64 x.s.r, .int .i64 x.p, .int .i64 x.q] 34))
    have VX := V.new w [.int .i64 x.s.a, .int .i64 x.s.b, .int .i64 x.s.c, .int .i64 x.s.d, .int .i64 x.s.e, .int .i64 x.s.f, .int .i64 x.s.g, .int .i64 x.s.h, .int .i64 x.s.r, .int .i64 x.p, .int .i64 x.q] 34
    obtain ⟨s_VX, f_VX, z_VX⟩ := VX.open
    have Bo := B
    go_wp2_with fail
    refine (CX.out _).mono ?_
    rintro e w1 ⟨rfl, b1⟩
    clear s_VX f_VX z_VX
    have S1 := b1.size
    simp only [World.size_alloc] at S1
    replace VX := VX.kept b1
    replace B := thenB B b1
    clear b1
    obtain ⟨s_VX, f_VX, z_VX⟩ := VX.open
    have Bo := B
    go_wp2
    go_ret
    exact ⟨rfl, B⟩
  · rw [hr]
    clear hr
    rw [h1] at CX
    go_enter Tryd.func76, Tryd.ntmps76
    have B := Below.refl w.heap.size w
    replace B := thenB B (belowA w (.cells #[.int .i64 x.s.a, .int .i64 x.s.b, .int .i64 x.s.c, .int .i64 x.s.d, .int .i64 x.s.e, .int .i64 x.s.f, .int .i64 x.s.g, .int .i64 x.s.h, .int .i64 x.s.r, .int .i64 x.p, .int .i64 x.q] 34))
    have VX := V.new w [.int .i64 x.s.a, .int .i64 x.s.b, .int .i64 x.s.c, .int .i64 x.s.d, .int .i64 x.s.e, .int .i64 x.s.f, .int .i64 x.s.g, .int .i64 x.s.h, .int .i64 x.s.r, .int .i64 x.p, .int .i64 x.q] 34
    obtain ⟨s_VX, f_VX, z_VX⟩ := VX.open
    have Bo := B
    go_wp2_with fail
    refine (CX.out _).mono ?_
    rintro e w11 ⟨rfl, b11⟩
    clear s_VX f_VX z_VX
    have S11 := b11.size
    simp only [World.size_alloc] at S11
    replace VX := VX.kept b11
    replace B := thenB B b11
    clear b11
    obtain ⟨s_VX, f_VX, z_VX⟩ := VX.open
    have Bo := B
    go_wp2_with fail
    refine (isAction_ok _ _).mono ?_
    rintro e wq ⟨rfl, rfl⟩
    rw [h2]
    go_wp2
    go_ret
    exact ⟨rfl, B⟩
  · rw [hr]
    clear hr
    rw [h1] at CX
    have h3 : x.p = 3 := by simpa using h3
    rw [h3]
    clear h2 h3
    have h2 : btw 3 1 3 = true := btw_iff.2 (by decide)
    go_enter Tryd.func76, Tryd.ntmps76
    have B := Below.refl w.heap.size w
    replace B := thenB B (belowA w (.cells #[.int .i64 x.s.a, .int .i64 x.s.b, .int .i64 x.s.c, .int .i64 x.s.d, .int .i64 x.s.e, .int .i64 x.s.f, .int .i64 x.s.g, .int .i64 x.s.h, .int .i64 x.s.r, .int .i64 3, .int .i64 x.q] 34))
    have VX := V.new w [.int .i64 x.s.a, .int .i64 x.s.b, .int .i64 x.s.c, .int .i64 x.s.d, .int .i64 x.s.e, .int .i64 x.s.f, .int .i64 x.s.g, .int .i64 x.s.h, .int .i64 x.s.r, .int .i64 3, .int .i64 x.q] 34
    obtain ⟨s_VX, f_VX, z_VX⟩ := VX.open
    have Bo := B
    go_wp2_with fail
    refine (CX.out _).mono ?_
    rintro e w21 ⟨rfl, b21⟩
    clear s_VX f_VX z_VX
    have S21 := b21.size
    simp only [World.size_alloc] at S21
    replace VX := VX.kept b21
    replace B := thenB B b21
    clear b21
    obtain ⟨s_VX, f_VX, z_VX⟩ := VX.open
    have Bo := B
    go_wp2_with fail
    refine (isAction_ok _ _).mono ?_
    rintro e wq ⟨rfl, rfl⟩
    rw [h2]
    clear s_VX f_VX z_VX
    have K : ∀ w' : World, Below wq.heap.size wq w' → (w'.cell? ⟨w.heap.size, 0, none⟩ = some (.int .i64 x.s.a) ∧ w'.cell? ⟨w.heap.size, 1, none⟩ = some (.int .i64 x.s.b) ∧ w'.cell? ⟨w.heap.size, 2, none⟩ = some (.int .i64 x.s.c) ∧ w'.cell? ⟨w.heap.size, 3, none⟩ = some (.int .i64 x.s.d) ∧ w'.cell? ⟨w.heap.size, 4, none⟩ = some (.int .i64 x.s.e) ∧ w'.cell? ⟨w.heap.size, 5, none⟩ = some (.int .i64 x.s.f) ∧ w'.cell? ⟨w.heap.size, 6, none⟩ = some (.int .i64 x.s.g) ∧ w'.cell? ⟨w.heap.size, 7, none⟩ = some (.int .i64 x.s.h) ∧ w'.cell? ⟨w.heap.size, 8, none⟩ = some (.int .i64 x.s.r) ∧ w'.cell? ⟨w.heap.size, 9, none⟩ = some (.int .i64 3) ∧ w'.cell? ⟨w.heap.size, 10, none⟩ = some (.int .i64 x.q)) := fun w' h => ⟨(VX.kept h).2.1 0 (by simp), (VX.kept h).2.1 1 (by simp), (VX.kept h).2.1 2 (by simp), (VX.kept h).2.1 3 (by simp), (VX.kept h).2.1 4 (by simp), (VX.kept h).2.1 5 (by simp), (VX.kept h).2.1 6 (by simp), (VX.kept h).2.1 7 (by simp), (VX.kept h).2.1 8 (by simp), (VX.kept h).2.1 9 (by simp), (VX.kept h).2.1 10 (by simp)⟩
    have K := Hid.mk K
    go_wp2_with fail
    refine wp_region_held_drew (S := (fun w' => w'.cell? ⟨w.heap.size, 0, none⟩ = some (.int .i64 x.s.a) ∧ w'.cell? ⟨w.heap.size, 1, none⟩ = some (.int .i64 x.s.b) ∧ w'.cell? ⟨w.heap.size, 2, none⟩ = some (.int .i64 x.s.c) ∧ w'.cell? ⟨w.heap.size, 3, none⟩ = some (.int .i64 x.s.d) ∧ w'.cell? ⟨w.heap.size, 4, none⟩ = some (.int .i64 x.s.e) ∧ w'.cell? ⟨w.heap.size, 5, none⟩ = some (.int .i64 x.s.f) ∧ w'.cell? ⟨w.heap.size, 6, none⟩ = some (.int .i64 x.s.g) ∧ w'.cell? ⟨w.heap.size, 7, none⟩ = some (.int .i64 x.s.h) ∧ w'.cell? ⟨w.heap.size, 8, none⟩ = some (.int .i64 x.s.r) ∧ w'.cell? ⟨w.heap.size, 9, none⟩ = some (.int .i64 3) ∧ w'.cell? ⟨w.heap.size, 10, none⟩ = some (.int .i64 x.q))) (by kernel_rfl) (K.out _ (Below.refl _ _).drew) (fun hHeld => ?_)
    refine wpAnyH_take (i := 0) (oi := _) (v := ?vz41u1) rfl (by kernel_rfl) (by kernel_rfl) (by kernel_rfl) (fun _ _ _ h => h) (Or.inl ⟨by rfl, ?hyz41u1⟩) hHeld ?restz41u1
    case hyz41u1 => (intro w hSw; (try dsimp only at hSw); go_simp; first | done | with_reducible rfl)
    try simp only [Act.put, List.getElem_toArray, List.getElem_cons_zero, List.setIfInBounds_toArray, List.set_cons_zero, List.set_cons_succ]
    refine wpAnyH_take (i := 1) (oi := _) (v := ?vz41u2) rfl (by kernel_rfl) (by kernel_rfl) (by kernel_rfl) (fun _ _ _ h => h) (Or.inl ⟨by rfl, ?hyz41u2⟩) hHeld ?restz41u2
    case hyz41u2 => (intro w hSw; (try dsimp only at hSw); go_simp; first | done | with_reducible rfl)
    try simp only [Act.put, List.getElem_toArray, List.getElem_cons_zero, List.getElem_cons_succ, List.setIfInBounds_toArray, List.set_cons_zero, List.set_cons_succ]
    refine wpAnyH_take (i := 4) (oi := _) (v := ?vz41u3) rfl (by kernel_rfl) (by kernel_rfl) (by kernel_rfl) (fun _ _ _ h => h) (Or.inl ⟨by rfl, ?hyz41u3⟩) hHeld ?restz41u3
    case hyz41u3 => (intro w hSw; (try dsimp only at hSw); go_simp; first | done | with_reducible rfl)
    try simp only [Act.put, List.getElem_toArray, List.getElem_cons_zero, List.getElem_cons_succ, List.setIfInBounds_toArray, List.set_cons_zero, List.set_cons_succ]
    refine wpAnyH_take (i := 5) (oi := _) (v := ?vz41u4) rfl (by kernel_rfl) (by kernel_rfl) (by kernel_rfl) (fun _ _ _ h => h) (Or.inl ⟨by rfl, ?hyz41u4⟩) hHeld ?restz41u4
    case hyz41u4 => (intro w hSw; (try dsimp only at hSw); go_simp; first | done | with_reducible rfl)
    try simp only [Act.put, List.getElem_toArray, List.getElem_cons_zero, List.getElem_cons_succ, List.setIfInBounds_toArray, List.set_cons_zero, List.set_cons_succ]
    refine wpAnyH_ready (rs := [2]) (by kernel_rfl) (by simp) ?_
    refine AllReadyH.cons (o := _) rfl (fun K0 hK0 => ?_) AllReadyH.nil
    go_simp
    go_at_call 117
    refine (CK3.out _).mono ?_
    rintro e wz41v5 ⟨rfl, bz41v5⟩
    refine hK0.out _ _ (K.out _ (thenB (Below.refl _ _).drew bz41v5)) (fun hHeld => ?_)
    clear hK0 K0
    try simp only [Act.put, List.getElem_toArray, List.getElem_cons_zero, List.getElem_cons_succ, List.setIfInBounds_toArray, List.set_cons_zero, List.set_cons_succ]
    refine wpAnyH_take (i := 3) (oi := _) (v := ?vz41u6) rfl (by kernel_rfl) (by kernel_rfl) (by kernel_rfl) (fun _ _ _ h => h) (Or.inl ⟨by rfl, ?hyz41u6⟩) hHeld ?restz41u6
    case hyz41u6 => (intro w hSw; (try dsimp only at hSw); go_simp; first | done | with_reducible rfl)
    try simp only [Act.put, List.getElem_toArray, List.getElem_cons_zero, List.getElem_cons_succ, List.setIfInBounds_toArray, List.set_cons_zero, List.set_cons_succ]
    refine wpAnyH_ready (rs := [6]) (by kernel_rfl) (by simp) ?_
    refine AllReadyH.cons (o := _) rfl (fun K0 hK0 => ?_) AllReadyH.nil
    go_simp
    go_at_call 93
    refine (isPeer_ok _ _).mono ?_
    rintro e wz41v7 ⟨rfl, rfl⟩
    refine hK0.out _ _ hHeld (fun hHeld => ?_)
    clear hK0 K0
    try simp only [Act.put, List.getElem_toArray, List.getElem_cons_zero, List.getElem_cons_succ, List.setIfInBounds_toArray, List.set_cons_zero, List.set_cons_succ]
    refine wpAnyH_take (i := 7) (oi := _) (v := ?vz41u8) rfl (by kernel_rfl) (by kernel_rfl) (by kernel_rfl) (fun _ _ _ h => h) (Or.inl ⟨by rfl, ?hyz41u8⟩) hHeld ?restz41u8
    case hyz41u8 => (intro w hSw; (try dsimp only at hSw); go_simp; first | done | with_reducible rfl)
    try simp only [Act.put, List.getElem_toArray, List.getElem_cons_zero, List.getElem_cons_succ, List.setIfInBounds_toArray, List.set_cons_zero, List.set_cons_succ]
    refine wpAnyH_done (by kernel_rfl) ?_ _
    clear K hHeld
    replace VX := VX.kept (thenB (Below.refl _ _).drew bz41v5)
    replace B := thenB B (thenB (Below.refl _ _).drew bz41v5)
    have Sz41 := ((thenB (Below.refl _ _).drew bz41v5)).size
    clear bz41v5
    obtain ⟨s_VX, f_VX, z_VX⟩ := VX.open
    have Bo := B
    go_wp2
    go_ret
    exact ⟨rfl, B⟩
  · rw [hr]
    clear hr
    rw [h1] at CX
    have h3 : x.p = 3 := by simpa using h3
    rw [h3]
    clear h2 h3
    have h2 : btw 3 1 3 = true := btw_iff.2 (by decide)
    go_enter Tryd.func76, Tryd.ntmps76
    have B := Below.refl w.heap.size w
    replace B := thenB B (belowA w (.cells #[.int .i64 x.s.a, .int .i64 x.s.b, .int .i64 x.s.c, .int .i64 x.s.d, .int .i64 x.s.e, .int .i64 x.s.f, .int .i64 x.s.g, .int .i64 x.s.h, .int .i64 x.s.r, .int .i64 3, .int .i64 x.q] 34))
    have VX := V.new w [.int .i64 x.s.a, .int .i64 x.s.b, .int .i64 x.s.c, .int .i64 x.s.d, .int .i64 x.s.e, .int .i64 x.s.f, .int .i64 x.s.g, .int .i64 x.s.h, .int .i64 x.s.r, .int .i64 3, .int .i64 x.q] 34
    obtain ⟨s_VX, f_VX, z_VX⟩ := VX.open
    have Bo := B
    go_wp2_with fail
    refine (CX.out _).mono ?_
    rintro e w31 ⟨rfl, b31⟩
    clear s_VX f_VX z_VX
    have S31 := b31.size
    simp only [World.size_alloc] at S31
    replace VX := VX.kept b31
    replace B := thenB B b31
    clear b31
    obtain ⟨s_VX, f_VX, z_VX⟩ := VX.open
    have Bo := B
    go_wp2_with fail
    refine (isAction_ok _ _).mono ?_
    rintro e wq ⟨rfl, rfl⟩
    rw [h2]
    clear s_VX f_VX z_VX
    have K : ∀ w' : World, Below wq.heap.size wq w' → (w'.cell? ⟨w.heap.size, 0, none⟩ = some (.int .i64 x.s.a) ∧ w'.cell? ⟨w.heap.size, 1, none⟩ = some (.int .i64 x.s.b) ∧ w'.cell? ⟨w.heap.size, 2, none⟩ = some (.int .i64 x.s.c) ∧ w'.cell? ⟨w.heap.size, 3, none⟩ = some (.int .i64 x.s.d) ∧ w'.cell? ⟨w.heap.size, 4, none⟩ = some (.int .i64 x.s.e) ∧ w'.cell? ⟨w.heap.size, 5, none⟩ = some (.int .i64 x.s.f) ∧ w'.cell? ⟨w.heap.size, 6, none⟩ = some (.int .i64 x.s.g) ∧ w'.cell? ⟨w.heap.size, 7, none⟩ = some (.int .i64 x.s.h) ∧ w'.cell? ⟨w.heap.size, 8, none⟩ = some (.int .i64 x.s.r) ∧ w'.cell? ⟨w.heap.size, 9, none⟩ = some (.int .i64 3) ∧ w'.cell? ⟨w.heap.size, 10, none⟩ = some (.int .i64 x.q)) := fun w' h => ⟨(VX.kept h).2.1 0 (by simp), (VX.kept h).2.1 1 (by simp), (VX.kept h).2.1 2 (by simp), (VX.kept h).2.1 3 (by simp), (VX.kept h).2.1 4 (by simp), (VX.kept h).2.1 5 (by simp), (VX.kept h).2.1 6 (by simp), (VX.kept h).2.1 7 (by simp), (VX.kept h).2.1 8 (by simp), (VX.kept h).2.1 9 (by simp), (VX.kept h).2.1 10 (by simp)⟩
    have K := Hid.mk K
    go_wp2_with fail
    refine wp_region_held_drew (S := (fun w' => w'.cell? ⟨w.heap.size, 0, none⟩ = some (.int .i64 x.s.a) ∧ w'.cell? ⟨w.heap.size, 1, none⟩ = some (.int .i64 x.s.b) ∧ w'.cell? ⟨w.heap.size, 2, none⟩ = some (.int .i64 x.s.c) ∧ w'.cell? ⟨w.heap.size, 3, none⟩ = some (.int .i64 x.s.d) ∧ w'.cell? ⟨w.heap.size, 4, none⟩ = some (.int .i64 x.s.e) ∧ w'.cell? ⟨w.heap.size, 5, none⟩ = some (.int .i64 x.s.f) ∧ w'.cell? ⟨w.heap.size, 6, none⟩ = some (.int .i64 x.s.g) ∧ w'.cell? ⟨w.heap.size, 7, none⟩ = some (.int .i64 x.s.h) ∧ w'.cell? ⟨w.heap.size, 8, none⟩ = some (.int .i64 x.s.r) ∧ w'.cell? ⟨w.heap.size, 9, none⟩ = some (.int .i64 3) ∧ w'.cell? ⟨w.heap.size, 10, none⟩ = some (.int .i64 x.q))) (by kernel_rfl) (K.out _ (Below.refl _ _).drew) (fun hHeld => ?_)
    refine wpAnyH_take (i := 0) (oi := _) (v := ?vz61u1) rfl (by kernel_rfl) (by kernel_rfl) (by kernel_rfl) (fun _ _ _ h => h) (Or.inl ⟨by rfl, ?hyz61u1⟩) hHeld ?restz61u1
    case hyz61u1 => (intro w hSw; (try dsimp only at hSw); go_simp; first | done | with_reducible rfl)
    try simp only [Act.put, List.getElem_toArray, List.getElem_cons_zero, List.setIfInBounds_toArray, List.set_cons_zero, List.set_cons_succ]
    refine wpAnyH_take (i := 1) (oi := _) (v := ?vz61u2) rfl (by kernel_rfl) (by kernel_rfl) (by kernel_rfl) (fun _ _ _ h => h) (Or.inl ⟨by rfl, ?hyz61u2⟩) hHeld ?restz61u2
    case hyz61u2 => (intro w hSw; (try dsimp only at hSw); go_simp; first | done | with_reducible rfl)
    try simp only [Act.put, List.getElem_toArray, List.getElem_cons_zero, List.getElem_cons_succ, List.setIfInBounds_toArray, List.set_cons_zero, List.set_cons_succ]
    refine wpAnyH_take (i := 4) (oi := _) (v := ?vz61u3) rfl (by kernel_rfl) (by kernel_rfl) (by kernel_rfl) (fun _ _ _ h => h) (Or.inl ⟨by rfl, ?hyz61u3⟩) hHeld ?restz61u3
    case hyz61u3 => (intro w hSw; (try dsimp only at hSw); go_simp; first | done | with_reducible rfl)
    try simp only [Act.put, List.getElem_toArray, List.getElem_cons_zero, List.getElem_cons_succ, List.setIfInBounds_toArray, List.set_cons_zero, List.set_cons_succ]
    refine wpAnyH_take (i := 5) (oi := _) (v := ?vz61u4) rfl (by kernel_rfl) (by kernel_rfl) (by kernel_rfl) (fun _ _ _ h => h) (Or.inl ⟨by rfl, ?hyz61u4⟩) hHeld ?restz61u4
    case hyz61u4 => (intro w hSw; (try dsimp only at hSw); go_simp; first | done | with_reducible rfl)
    try simp only [Act.put, List.getElem_toArray, List.getElem_cons_zero, List.getElem_cons_succ, List.setIfInBounds_toArray, List.set_cons_zero, List.set_cons_succ]
    refine wpAnyH_ready (rs := [2]) (by kernel_rfl) (by simp) ?_
    refine AllReadyH.cons (o := _) rfl (fun K0 hK0 => ?_) AllReadyH.nil
    go_simp
    go_at_call 117
    refine (CK3.out _).mono ?_
    rintro e wz61v5 ⟨rfl, bz61v5⟩
    refine hK0.out _ _ (K.out _ (thenB (Below.refl _ _).drew bz61v5)) (fun hHeld => ?_)
    clear hK0 K0
    try simp only [Act.put, List.getElem_toArray, List.getElem_cons_zero, List.getElem_cons_succ, List.setIfInBounds_toArray, List.set_cons_zero, List.set_cons_succ]
    refine wpAnyH_take (i := 3) (oi := _) (v := ?vz61u6) rfl (by kernel_rfl) (by kernel_rfl) (by kernel_rfl) (fun _ _ _ h => h) (Or.inl ⟨by rfl, ?hyz61u6⟩) hHeld ?restz61u6
    case hyz61u6 => (intro w hSw; (try dsimp only at hSw); go_simp; first | done | with_reducible rfl)
    try simp only [Act.put, List.getElem_toArray, List.getElem_cons_zero, List.getElem_cons_succ, List.setIfInBounds_toArray, List.set_cons_zero, List.set_cons_succ]
    refine wpAnyH_ready (rs := [6]) (by kernel_rfl) (by simp) ?_
    refine AllReadyH.cons (o := _) rfl (fun K0 hK0 => ?_) AllReadyH.nil
    go_simp
    go_at_call 93
    refine (isPeer_ok _ _).mono ?_
    rintro e wz61v7 ⟨rfl, rfl⟩
    refine hK0.out _ _ hHeld (fun hHeld => ?_)
    clear hK0 K0
    try simp only [Act.put, List.getElem_toArray, List.getElem_cons_zero, List.getElem_cons_succ, List.setIfInBounds_toArray, List.set_cons_zero, List.set_cons_succ]
    refine wpAnyH_take (i := 7) (oi := _) (v := ?vz61u8) rfl (by kernel_rfl) (by kernel_rfl) (by kernel_rfl) (fun _ _ _ h => h) (Or.inl ⟨by rfl, ?hyz61u8⟩) hHeld ?restz61u8
    case hyz61u8 => (intro w hSw; (try dsimp only at hSw); go_simp; first | done | with_reducible rfl)
    try simp only [Act.put, List.getElem_toArray, List.getElem_cons_zero, List.getElem_cons_succ, List.setIfInBounds_toArray, List.set_cons_zero, List.set_cons_succ]
    refine wpAnyH_done (by kernel_rfl) ?_ _
    clear K hHeld
    replace VX := VX.kept (thenB (Below.refl _ _).drew bz61v5)
    replace B := thenB B (thenB (Below.refl _ _).drew bz61v5)
    have Sz61 := ((thenB (Below.refl _ _).drew bz61v5)).size
    clear bz61v5
    obtain ⟨s_VX, f_VX, z_VX⟩ := VX.open
    have Bo := B
    go_wp2
    go_ret
    exact ⟨rfl, B⟩
  · rw [hr]
    clear hr
    rw [h1] at CX
    have h3 : ¬ x.p = 3 := by simpa using h3
    rw [btw_iff] at h2
    have h5 : x.p = 1 ∨ x.p = 2 := by omega
    clear h2 h3
    have h6 : (x.q == 0) = false := by simpa using h4
    clear h4
    rcases h5 with h5 | h5
    all_goals rw [h5]; clear h5
    · skip
      go_enter Tryd.func76, Tryd.ntmps76
      have B := Below.refl w.heap.size w
      replace B := thenB B (belowA w (.cells #[.int .i64 x.s.a, .int .i64 x.s.b, .int .i64 x.s.c, .int .i64 x.s.d, .int .i64 x.s.e, .int .i64 x.s.f, .int .i64 x.s.g, .int .i64 x.s.h, .int .i64 x.s.r, .int .i64 1, .int .i64 x.q] 34))
      have VX := V.new w [.int .i64 x.s.a, .int .i64 x.s.b, .int .i64 x.s.c, .int .i64 x.s.d, .int .i64 x.s.e, .int .i64 x.s.f, .int .i64 x.s.g, .int .i64 x.s.h, .int .i64 x.s.r, .int .i64 1, .int .i64 x.q] 34
      obtain ⟨s_VX, f_VX, z_VX⟩ := VX.open
      have Bo := B
      go_wp2_with fail
      refine (CX.out _).mono ?_
      rintro e w41 ⟨rfl, b41⟩
      clear s_VX f_VX z_VX
      have S41 := b41.size
      simp only [World.size_alloc] at S41
      replace VX := VX.kept b41
      replace B := thenB B b41
      clear b41
      obtain ⟨s_VX, f_VX, z_VX⟩ := VX.open
      have Bo := B
      go_wp2_with fail
      refine (isAction_ok _ _).mono ?_
      rintro e wq ⟨rfl, rfl⟩
      rw [show btw 1 1 3 = true from btw_iff.2 (by decide)]
      clear s_VX f_VX z_VX
      have K : ∀ w' : World, Below wq.heap.size wq w' → (w'.cell? ⟨w.heap.size, 0, none⟩ = some (.int .i64 x.s.a) ∧ w'.cell? ⟨w.heap.size, 1, none⟩ = some (.int .i64 x.s.b) ∧ w'.cell? ⟨w.heap.size, 2, none⟩ = some (.int .i64 x.s.c) ∧ w'.cell? ⟨w.heap.size, 3, none⟩ = some (.int .i64 x.s.d) ∧ w'.cell? ⟨w.heap.size, 4, none⟩ = some (.int .i64 x.s.e) ∧ w'.cell? ⟨w.heap.size, 5, none⟩ = some (.int .i64 x.s.f) ∧ w'.cell? ⟨w.heap.size, 6, none⟩ = some (.int .i64 x.s.g) ∧ w'.cell? ⟨w.heap.size, 7, none⟩ = some (.int .i64 x.s.h) ∧ w'.cell? ⟨w.heap.size, 8, none⟩ = some (.int .i64 x.s.r) ∧ w'.cell? ⟨w.heap.size, 9, none⟩ = some (.int .i64 1) ∧ w'.cell? ⟨w.heap.size, 10, none⟩ = some (.int .i64 x.q)) := fun w' h => ⟨(VX.kept h).2.1 0 (by simp), (VX.kept h).2.1 1 (by simp), (VX.kept h).2.1 2 (by simp), (VX.kept h).2.1 3 (by simp), (VX.kept h).2.1 4 (by simp), (VX.kept h).2.1 5 (by simp), (VX.kept h).2.1 6 (by simp), (VX.kept h).2.1 7 (by simp), (VX.kept h).2.1 8 (by simp), (VX.kept h).2.1 9 (by simp), (VX.kept h).2.1 10 (by simp)⟩
      have K := Hid.mk K
      go_wp2_with fail
      refine wp_region_held_drew (S := (fun w' => w'.cell? ⟨w.heap.size, 0, none⟩ = some (.int .i64 x.s.a) ∧ w'.cell? ⟨w.heap.size, 1, none⟩ = some (.int .i64 x.s.b) ∧ w'.cell? ⟨w.heap.size, 2, none⟩ = some (.int .i64 x.s.c) ∧ w'.cell? ⟨w.heap.size, 3, none⟩ = some (.int .i64 x.s.d) ∧ w'.cell? ⟨w.heap.size, 4, none⟩ = some (.int .i64 x.s.e) ∧ w'.cell? ⟨w.heap.size, 5, none⟩ = some (.int .i64 x.s.f) ∧ w'.cell? ⟨w.heap.size, 6, none⟩ = some (.int .i64 x.s.g) ∧ w'.cell? ⟨w.heap.size, 7, none⟩ = some (.int .i64 x.s.h) ∧ w'.cell? ⟨w.heap.size, 8, none⟩ = some (.int .i64 x.s.r) ∧ w'.cell? ⟨w.heap.size, 9, none⟩ = some (.int .i64 1) ∧ w'.cell? ⟨w.heap.size, 10, none⟩ = some (.int .i64 x.q))) (by kernel_rfl) (K.out _ (Below.refl _ _).drew) (fun hHeld => ?_)
      refine wpAnyH_take (i := 0) (oi := _) (v := ?vz84u1) rfl (by kernel_rfl) (by kernel_rfl) (by kernel_rfl) (fun _ _ _ h => h) (Or.inl ⟨by rfl, ?hyz84u1⟩) hHeld ?restz84u1
      case hyz84u1 => (intro w hSw; (try dsimp only at hSw); go_simp; first | done | with_reducible rfl)
      try simp only [Act.put, List.getElem_toArray, List.getElem_cons_zero, List.setIfInBounds_toArray, List.set_cons_zero, List.set_cons_succ]
      refine wpAnyH_take (i := 1) (oi := _) (v := ?vz84u2) rfl (by kernel_rfl) (by kernel_rfl) (by kernel_rfl) (fun _ _ _ h => h) (Or.inl ⟨by rfl, ?hyz84u2⟩) hHeld ?restz84u2
      case hyz84u2 => (intro w hSw; (try dsimp only at hSw); go_simp; first | done | with_reducible rfl)
      try simp only [Act.put, List.getElem_toArray, List.getElem_cons_zero, List.getElem_cons_succ, List.setIfInBounds_toArray, List.set_cons_zero, List.set_cons_succ]
      refine wpAnyH_take (i := 4) (oi := _) (v := ?vz84u3) rfl (by kernel_rfl) (by kernel_rfl) (by kernel_rfl) (fun _ _ _ h => h) (Or.inl ⟨by rfl, ?hyz84u3⟩) hHeld ?restz84u3
      case hyz84u3 => (intro w hSw; (try dsimp only at hSw); go_simp; first | done | with_reducible rfl)
      try simp only [Act.put, List.getElem_toArray, List.getElem_cons_zero, List.getElem_cons_succ, List.setIfInBounds_toArray, List.set_cons_zero, List.set_cons_succ]
      refine wpAnyH_take (i := 5) (oi := _) (v := ?vz84u4) rfl (by kernel_rfl) (by kernel_rfl) (by kernel_rfl) (fun _ _ _ h => h) (Or.inl ⟨by rfl, ?hyz84u4⟩) hHeld ?restz84u4
      case hyz84u4 => (intro w hSw; (try dsimp only at hSw); go_simp; first | done | with_reducible rfl)
      try simp only [Act.put, List.getElem_toArray, List.getElem_cons_zero, List.getElem_cons_succ, List.setIfInBounds_toArray, List.set_cons_zero, List.set_cons_succ]
      refine wpAnyH_ready (rs := [2]) (by kernel_rfl) (by simp) ?_
      refine AllReadyH.cons (o := _) rfl (fun K0 hK0 => ?_) AllReadyH.nil
      go_simp
      go_at_call 117
      refine (CK1.out _).mono ?_
      rintro e wz84v5 ⟨rfl, bz84v5⟩
      refine hK0.out _ _ (K.out _ (thenB (Below.refl _ _).drew bz84v5)) (fun hHeld => ?_)
      clear hK0 K0
      try simp only [Act.put, List.getElem_toArray, List.getElem_cons_zero, List.getElem_cons_succ, List.setIfInBounds_toArray, List.set_cons_zero, List.set_cons_succ]
      refine wpAnyH_take (i := 3) (oi := _) (v := ?vz84u6) rfl (by kernel_rfl) (by kernel_rfl) (by kernel_rfl) (fun _ _ _ h => h) (Or.inl ⟨by rfl, ?hyz84u6⟩) hHeld ?restz84u6
      case hyz84u6 => (intro w hSw; (try dsimp only at hSw); go_simp; first | done | with_reducible rfl)
      try simp only [Act.put, List.getElem_toArray, List.getElem_cons_zero, List.getElem_cons_succ, List.setIfInBounds_toArray, List.set_cons_zero, List.set_cons_succ]
      refine wpAnyH_ready (rs := [6]) (by kernel_rfl) (by simp) ?_
      refine AllReadyH.cons (o := _) rfl (fun K0 hK0 => ?_) AllReadyH.nil
      go_simp
      go_at_call 141
      refine (isNoPeer_ok _ _).mono ?_
      rintro e wz84v7 ⟨rfl, rfl⟩
      refine hK0.out _ _ hHeld (fun hHeld => ?_)
      clear hK0 K0
      try simp only [Act.put, List.getElem_toArray, List.getElem_cons_zero, List.getElem_cons_succ, List.setIfInBounds_toArray, List.set_cons_zero, List.set_cons_succ]
      refine wpAnyH_take (i := 7) (oi := _) (v := ?vz84u8) rfl (by kernel_rfl) (by kernel_rfl) (by kernel_rfl) (fun _ _ _ h => h) (Or.inl ⟨by rfl, ?hyz84u8⟩) hHeld ?restz84u8
      case hyz84u8 => (intro w hSw; (try dsimp only at hSw); go_simp; first | done | with_reducible rfl)
      try simp only [Act.put, List.getElem_toArray, List.getElem_cons_zero, List.getElem_cons_succ, List.setIfInBounds_toArray, List.set_cons_zero, List.set_cons_succ]
      refine wpAnyH_done (by kernel_rfl) ?_ _
      clear K hHeld
      replace VX := VX.kept (thenB (Below.refl _ _).drew bz84v5)
      replace B := thenB B (thenB (Below.refl _ _).drew bz84v5)
      have Sz84 := ((thenB (Below.refl _ _).drew bz84v5)).size
      clear bz84v5
      obtain ⟨s_VX, f_VX, z_VX⟩ := VX.open
      have Bo := B
      go_wp2
      go_ret
      exact ⟨rfl, B⟩
    · skip
      go_enter Tryd.func76, Tryd.ntmps76
      have B := Below.refl w.heap.size w
      replace B := thenB B (belowA w (.cells #[.int .i64 x.s.a, .int .i64 x.s.b, .int .i64 x.s.c, .int .i64 x.s.d, .int .i64 x.s.e, .int .i64 x.s.f, .int .i64 x.s.g, .int .i64 x.s.h, .int .i64 x.s.r, .int .i64 2, .int .i64 x.q] 34))
      have VX := V.new w [.int .i64 x.s.a, .int .i64 x.s.b, .int .i64 x.s.c, .int .i64 x.s.d, .int .i64 x.s.e, .int .i64 x.s.f, .int .i64 x.s.g, .int .i64 x.s.h, .int .i64 x.s.r, .int .i64 2, .int .i64 x.q] 34
      obtain ⟨s_VX, f_VX, z_VX⟩ := VX.open
      have Bo := B
      go_wp2_with fail
      refine (CX.out _).mono ?_
      rintro e w41 ⟨rfl, b41⟩
      clear s_VX f_VX z_VX
      have S41 := b41.size
      simp only [World.size_alloc] at S41
      replace VX := VX.kept b41
      replace B := thenB B b41
      clear b41
      obtain ⟨s_VX, f_VX, z_VX⟩ := VX.open
      have Bo := B
      go_wp2_with fail
      refine (isAction_ok _ _).mono ?_
      rintro e wq ⟨rfl, rfl⟩
      rw [show btw 2 1 3 = true from btw_iff.2 (by decide)]
      clear s_VX f_VX z_VX
      have K : ∀ w' : World, Below wq.heap.size wq w' → (w'.cell? ⟨w.heap.size, 0, none⟩ = some (.int .i64 x.s.a) ∧ w'.cell? ⟨w.heap.size, 1, none⟩ = some (.int .i64 x.s.b) ∧ w'.cell? ⟨w.heap.size, 2, none⟩ = some (.int .i64 x.s.c) ∧ w'.cell? ⟨w.heap.size, 3, none⟩ = some (.int .i64 x.s.d) ∧ w'.cell? ⟨w.heap.size, 4, none⟩ = some (.int .i64 x.s.e) ∧ w'.cell? ⟨w.heap.size, 5, none⟩ = some (.int .i64 x.s.f) ∧ w'.cell? ⟨w.heap.size, 6, none⟩ = some (.int .i64 x.s.g) ∧ w'.cell? ⟨w.heap.size, 7, none⟩ = some (.int .i64 x.s.h) ∧ w'.cell? ⟨w.heap.size, 8, none⟩ = some (.int .i64 x.s.r) ∧ w'.cell? ⟨w.heap.size, 9, none⟩ = some (.int .i64 2) ∧ w'.cell? ⟨w.heap.size, 10, none⟩ = some (.int .i64 x.q)) := fun w' h => ⟨(VX.kept h).2.1 0 (by simp), (VX.kept h).2.1 1 (by simp), (VX.kept h).2.1 2 (by simp), (VX.kept h).2.1 3 (by simp), (VX.kept h).2.1 4 (by simp), (VX.kept h).2.1 5 (by simp), (VX.kept h).2.1 6 (by simp), (VX.kept h).2.1 7 (by simp), (VX.kept h).2.1 8 (by simp), (VX.kept h).2.1 9 (by simp), (VX.kept h).2.1 10 (by simp)⟩
      have K := Hid.mk K
      go_wp2_with fail
      refine wp_region_held_drew (S := (fun w' => w'.cell? ⟨w.heap.size, 0, none⟩ = some (.int .i64 x.s.a) ∧ w'.cell? ⟨w.heap.size, 1, none⟩ = some (.int .i64 x.s.b) ∧ w'.cell? ⟨w.heap.size, 2, none⟩ = some (.int .i64 x.s.c) ∧ w'.cell? ⟨w.heap.size, 3, none⟩ = some (.int .i64 x.s.d) ∧ w'.cell? ⟨w.heap.size, 4, none⟩ = some (.int .i64 x.s.e) ∧ w'.cell? ⟨w.heap.size, 5, none⟩ = some (.int .i64 x.s.f) ∧ w'.cell? ⟨w.heap.size, 6, none⟩ = some (.int .i64 x.s.g) ∧ w'.cell? ⟨w.heap.size, 7, none⟩ = some (.int .i64 x.s.h) ∧ w'.cell? ⟨w.heap.size, 8, none⟩ = some (.int .i64 x.s.r) ∧ w'.cell? ⟨w.heap.size, 9, none⟩ = some (.int .i64 2) ∧ w'.cell? ⟨w.heap.size, 10, none⟩ = some (.int .i64 x.q))) (by kernel_rfl) (K.out _ (Below.refl _ _).drew) (fun hHeld => ?_)
      refine wpAnyH_take (i := 0) (oi := _) (v := ?vz87u1) rfl (by kernel_rfl) (by kernel_rfl) (by kernel_rfl) (fun _ _ _ h => h) (Or.inl ⟨by rfl, ?hyz87u1⟩) hHeld ?restz87u1
      case hyz87u1 => (intro w hSw; (try dsimp only at hSw); go_simp; first | done | with_reducible rfl)
      try simp only [Act.put, List.getElem_toArray, List.getElem_cons_zero, List.setIfInBounds_toArray, List.set_cons_zero, List.set_cons_succ]
      refine wpAnyH_take (i := 1) (oi := _) (v := ?vz87u2) rfl (by kernel_rfl) (by kernel_rfl) (by kernel_rfl) (fun _ _ _ h => h) (Or.inl ⟨by rfl, ?hyz87u2⟩) hHeld ?restz87u2
      case hyz87u2 => (intro w hSw; (try dsimp only at hSw); go_simp; first | done | with_reducible rfl)
      try simp only [Act.put, List.getElem_toArray, List.getElem_cons_zero, List.getElem_cons_succ, List.setIfInBounds_toArray, List.set_cons_zero, List.set_cons_succ]
      refine wpAnyH_take (i := 4) (oi := _) (v := ?vz87u3) rfl (by kernel_rfl) (by kernel_rfl) (by kernel_rfl) (fun _ _ _ h => h) (Or.inl ⟨by rfl, ?hyz87u3⟩) hHeld ?restz87u3
      case hyz87u3 => (intro w hSw; (try dsimp only at hSw); go_simp; first | done | with_reducible rfl)
      try simp only [Act.put, List.getElem_toArray, List.getElem_cons_zero, List.getElem_cons_succ, List.setIfInBounds_toArray, List.set_cons_zero, List.set_cons_succ]
      refine wpAnyH_take (i := 5) (oi := _) (v := ?vz87u4) rfl (by kernel_rfl) (by kernel_rfl) (by kernel_rfl) (fun _ _ _ h => h) (Or.inl ⟨by rfl, ?hyz87u4⟩) hHeld ?restz87u4
      case hyz87u4 => (intro w hSw; (try dsimp only at hSw); go_simp; first | done | with_reducible rfl)
      try simp only [Act.put, List.getElem_toArray, List.getElem_cons_zero, List.getElem_cons_succ, List.setIfInBounds_toArray, List.set_cons_zero, List.set_cons_succ]
      refine wpAnyH_ready (rs := [2]) (by kernel_rfl) (by simp) ?_
      refine AllReadyH.cons (o := _) rfl (fun K0 hK0 => ?_) AllReadyH.nil
      go_simp
      go_at_call 117
      refine (CK2.out _).mono ?_
      rintro e wz87v5 ⟨rfl, bz87v5⟩
      refine hK0.out _ _ (K.out _ (thenB (Below.refl _ _).drew bz87v5)) (fun hHeld => ?_)
      clear hK0 K0
      try simp only [Act.put, List.getElem_toArray, List.getElem_cons_zero, List.getElem_cons_succ, List.setIfInBounds_toArray, List.set_cons_zero, List.set_cons_succ]
      refine wpAnyH_take (i := 3) (oi := _) (v := ?vz87u6) rfl (by kernel_rfl) (by kernel_rfl) (by kernel_rfl) (fun _ _ _ h => h) (Or.inl ⟨by rfl, ?hyz87u6⟩) hHeld ?restz87u6
      case hyz87u6 => (intro w hSw; (try dsimp only at hSw); go_simp; first | done | with_reducible rfl)
      try simp only [Act.put, List.getElem_toArray, List.getElem_cons_zero, List.getElem_cons_succ, List.setIfInBounds_toArray, List.set_cons_zero, List.set_cons_succ]
      refine wpAnyH_ready (rs := [6]) (by kernel_rfl) (by simp) ?_
      refine AllReadyH.cons (o := _) rfl (fun K0 hK0 => ?_) AllReadyH.nil
      go_simp
      go_at_call 141
      refine (isNoPeer_ok _ _).mono ?_
      rintro e wz87v7 ⟨rfl, rfl⟩
      refine hK0.out _ _ hHeld (fun hHeld => ?_)
      clear hK0 K0
      try simp only [Act.put, List.getElem_toArray, List.getElem_cons_zero, List.getElem_cons_succ, List.setIfInBounds_toArray, List.set_cons_zero, List.set_cons_succ]
      refine wpAnyH_take (i := 7) (oi := _) (v := ?vz87u8) rfl (by kernel_rfl) (by kernel_rfl) (by kernel_rfl) (fun _ _ _ h => h) (Or.inl ⟨by rfl, ?hyz87u8⟩) hHeld ?restz87u8
      case hyz87u8 => (intro w hSw; (try dsimp only at hSw); go_simp; first | done | with_reducible rfl)
      try simp only [Act.put, List.getElem_toArray, List.getElem_cons_zero, List.getElem_cons_succ, List.setIfInBounds_toArray, List.set_cons_zero, List.set_cons_succ]
      refine wpAnyH_done (by kernel_rfl) ?_ _
      clear K hHeld
      replace VX := VX.kept (thenB (Below.refl _ _).drew bz87v5)
      replace B := thenB B (thenB (Below.refl _ _).drew bz87v5)
      have Sz87 := ((thenB (Below.refl _ _).drew bz87v5)).size
      clear bz87v5
      obtain ⟨s_VX, f_VX, z_VX⟩ := VX.open
      have Bo := B
      go_wp2
      go_ret
      exact ⟨rfl, B⟩
  · rw [hr]
    clear hr
    rw [h1] at CX
    have h3 : ¬ x.p = 3 := by simpa using h3
    rw [btw_iff] at h2
    have h5 : x.p = 1 ∨ x.p = 2 := by omega
    clear h2 h3
    have h6 : (x.q == 0) = true := by simpa using h4
    clear h4
    rcases h5 with h5 | h5
    all_goals rw [h5]; clear h5
    · skip
      go_enter Tryd.func76, Tryd.ntmps76
      have B := Below.refl w.heap.size w
      replace B := thenB B (belowA w (.cells #[.int .i64 x.s.a, .int .i64 x.s.b, .int .i64 x.s.c, .int .i64 x.s.d, .int .i64 x.s.e, .int .i64 x.s.f, .int .i64 x.s.g, .int .i64 x.s.h, .int .i64 x.s.r, .int .i64 1, .int .i64 x.q] 34))
      have VX := V.new w [.int .i64 x.s.a, .int .i64 x.s.b, .int .i64 x.s.c, .int .i64 x.s.d, .int .i64 x.s.e, .int .i64 x.s.f, .int .i64 x.s.g, .int .i64 x.s.h, .int .i64 x.s.r, .int .i64 1, .int .i64 x.q] 34
      obtain ⟨s_VX, f_VX, z_VX⟩ := VX.open
      have Bo := B
      go_wp2_with fail
      refine (CX.out _).mono ?_
      rintro e w51 ⟨rfl, b51⟩
      clear s_VX f_VX z_VX
      have S51 := b51.size
      simp only [World.size_alloc] at S51
      replace VX := VX.kept b51
      replace B := thenB B b51
      clear b51
      obtain ⟨s_VX, f_VX, z_VX⟩ := VX.open
      have Bo := B
      go_wp2_with fail
      refine (isAction_ok _ _).mono ?_
      rintro e wq ⟨rfl, rfl⟩
      rw [show btw 1 1 3 = true from btw_iff.2 (by decide)]
      clear s_VX f_VX z_VX
      have K : ∀ w' : World, Below wq.heap.size wq w' → (w'.cell? ⟨w.heap.size, 0, none⟩ = some (.int .i64 x.s.a) ∧ w'.cell? ⟨w.heap.size, 1, none⟩ = some (.int .i64 x.s.b) ∧ w'.cell? ⟨w.heap.size, 2, none⟩ = some (.int .i64 x.s.c) ∧ w'.cell? ⟨w.heap.size, 3, none⟩ = some (.int .i64 x.s.d) ∧ w'.cell? ⟨w.heap.size, 4, none⟩ = some (.int .i64 x.s.e) ∧ w'.cell? ⟨w.heap.size, 5, none⟩ = some (.int .i64 x.s.f) ∧ w'.cell? ⟨w.heap.size, 6, none⟩ = some (.int .i64 x.s.g) ∧ w'.cell? ⟨w.heap.size, 7, none⟩ = some (.int .i64 x.s.h) ∧ w'.cell? ⟨w.heap.size, 8, none⟩ = some (.int .i64 x.s.r) ∧ w'.cell? ⟨w.heap.size, 9, none⟩ = some (.int .i64 1) ∧ w'.cell? ⟨w.heap.size, 10, none⟩ = some (.int .i64 x.q)) := fun w' h => ⟨(VX.kept h).2.1 0 (by simp), (VX.kept h).2.1 1 (by simp), (VX.kept h).2.1 2 (by simp), (VX.kept h).2.1 3 (by simp), (VX.kept h).2.1 4 (by simp), (VX.kept h).2.1 5 (by simp), (VX.kept h).2.1 6 (by simp), (VX.kept h).2.1 7 (by simp), (VX.kept h).2.1 8 (by simp), (VX.kept h).2.1 9 (by simp), (VX.kept h).2.1 10 (by simp)⟩
      have K := Hid.mk K
      go_wp2_with fail
      refine wp_region_held_drew (S := (fun w' => w'.cell? ⟨w.heap.size, 0, none⟩ = some (.int .i64 x.s.a) ∧ w'.cell? ⟨w.heap.size, 1, none⟩ = some (.int .i64 x.s.b) ∧ w'.cell? ⟨w.heap.size, 2, none⟩ = some (.int .i64 x.s.c) ∧ w'.cell? ⟨w.heap.size, 3, none⟩ = some (.int .i64 x.s.d) ∧ w'.cell? ⟨w.heap.size, 4, none⟩ = some (.int .i64 x.s.e) ∧ w'.cell? ⟨w.heap.size, 5, none⟩ = some (.int .i64 x.s.f) ∧ w'.cell? ⟨w.heap.size, 6, none⟩ = some (.int .i64 x.s.g) ∧ w'.cell? ⟨w.heap.size, 7, none⟩ = some (.int .i64 x.s.h) ∧ w'.cell? ⟨w.heap.size, 8, none⟩ = some (.int .i64 x.s.r) ∧ w'.cell? ⟨w.heap.size, 9, none⟩ = some (.int .i64 1) ∧ w'.cell? ⟨w.heap.size, 10, none⟩ = some (.int .i64 x.q))) (by kernel_rfl) (K.out _ (Below.refl _ _).drew) (fun hHeld => ?_)
      refine wpAnyH_take (i := 0) (oi := _) (v := ?vz104u1) rfl (by kernel_rfl) (by kernel_rfl) (by kernel_rfl) (fun _ _ _ h => h) (Or.inl ⟨by rfl, ?hyz104u1⟩) hHeld ?restz104u1
      case hyz104u1 => (intro w hSw; (try dsimp only at hSw); go_simp; first | done | with_reducible rfl)
      try simp only [Act.put, List.getElem_toArray, List.getElem_cons_zero, List.setIfInBounds_toArray, List.set_cons_zero, List.set_cons_succ]
      refine wpAnyH_take (i := 1) (oi := _) (v := ?vz104u2) rfl (by kernel_rfl) (by kernel_rfl) (by kernel_rfl) (fun _ _ _ h => h) (Or.inl ⟨by rfl, ?hyz104u2⟩) hHeld ?restz104u2
      case hyz104u2 => (intro w hSw; (try dsimp only at hSw); go_simp; first | done | with_reducible rfl)
      try simp only [Act.put, List.getElem_toArray, List.getElem_cons_zero, List.getElem_cons_succ, List.setIfInBounds_toArray, List.set_cons_zero, List.set_cons_succ]
      refine wpAnyH_take (i := 4) (oi := _) (v := ?vz104u3) rfl (by kernel_rfl) (by kernel_rfl) (by kernel_rfl) (fun _ _ _ h => h) (Or.inl ⟨by rfl, ?hyz104u3⟩) hHeld ?restz104u3
      case hyz104u3 => (intro w hSw; (try dsimp only at hSw); go_simp; first | done | with_reducible rfl)
      try simp only [Act.put, List.getElem_toArray, List.getElem_cons_zero, List.getElem_cons_succ, List.setIfInBounds_toArray, List.set_cons_zero, List.set_cons_succ]
      refine wpAnyH_take (i := 5) (oi := _) (v := ?vz104u4) rfl (by kernel_rfl) (by kernel_rfl) (by kernel_rfl) (fun _ _ _ h => h) (Or.inl ⟨by rfl, ?hyz104u4⟩) hHeld ?restz104u4
      case hyz104u4 => (intro w hSw; (try dsimp only at hSw); go_simp; first | done | with_reducible rfl)
      try simp only [Act.put, List.getElem_toArray, List.getElem_cons_zero, List.getElem_cons_succ, List.setIfInBounds_toArray, List.set_cons_zero, List.set_cons_succ]
      refine wpAnyH_ready (rs := [2]) (by kernel_rfl) (by simp) ?_
      refine AllReadyH.cons (o := _) rfl (fun K0 hK0 => ?_) AllReadyH.nil
      go_simp
      go_at_call 117
      refine (CK1.out _).mono ?_
      rintro e wz104v5 ⟨rfl, bz104v5⟩
      refine hK0.out _ _ (K.out _ (thenB (Below.refl _ _).drew bz104v5)) (fun hHeld => ?_)
      clear hK0 K0
      try simp only [Act.put, List.getElem_toArray, List.getElem_cons_zero, List.getElem_cons_succ, List.setIfInBounds_toArray, List.set_cons_zero, List.set_cons_succ]
      refine wpAnyH_take (i := 3) (oi := _) (v := ?vz104u6) rfl (by kernel_rfl) (by kernel_rfl) (by kernel_rfl) (fun _ _ _ h => h) (Or.inl ⟨by rfl, ?hyz104u6⟩) hHeld ?restz104u6
      case hyz104u6 => (intro w hSw; (try dsimp only at hSw); go_simp; first | done | with_reducible rfl)
      try simp only [Act.put, List.getElem_toArray, List.getElem_cons_zero, List.getElem_cons_succ, List.setIfInBounds_toArray, List.set_cons_zero, List.set_cons_succ]
      refine wpAnyH_ready (rs := [6]) (by kernel_rfl) (by simp) ?_
      refine AllReadyH.cons (o := _) rfl (fun K0 hK0 => ?_) AllReadyH.nil
      go_simp
      go_at_call 141
      refine (isNoPeer_ok _ _).mono ?_
      rintro e wz104v7 ⟨rfl, rfl⟩
      refine hK0.out _ _ hHeld (fun hHeld => ?_)
      clear hK0 K0
      try simp only [Act.put, List.getElem_toArray, List.getElem_cons_zero, List.getElem_cons_succ, List.setIfInBounds_toArray, List.set_cons_zero, List.set_cons_succ]
      refine wpAnyH_take (i := 7) (oi := _) (v := ?vz104u8) rfl (by kernel_rfl) (by kernel_rfl) (by kernel_rfl) (fun _ _ _ h => h) (Or.inl ⟨by rfl, ?hyz104u8⟩) hHeld ?restz104u8
      case hyz104u8 => (intro w hSw; (try dsimp only at hSw); go_simp; first | done | with_reducible rfl)
      try simp only [Act.put, List.getElem_toArray, List.getElem_cons_zero, List.getElem_cons_succ, List.setIfInBounds_toArray, List.set_cons_zero, List.set_cons_succ]
      refine wpAnyH_done (by kernel_rfl) ?_ _
      clear K hHeld
      replace VX := VX.kept (thenB (Below.refl _ _).drew bz104v5)
      replace B := thenB B (thenB (Below.refl _ _).drew bz104v5)
      have Sz104 := ((thenB (Below.refl _ _).drew bz104v5)).size
      clear bz104v5
      obtain ⟨s_VX, f_VX, z_VX⟩ := VX.open
      have Bo := B
      go_wp2
      go_ret
      exact ⟨rfl, B⟩
    · skip
      go_enter Tryd.func76, Tryd.ntmps76
      have B := Below.refl w.heap.size w
      replace B := thenB B (belowA w (.cells #[.int .i64 x.s.a, .int .i64 x.s.b, .int .i64 x.s.c, .int .i64 x.s.d, .int .i64 x.s.e, .int .i64 x.s.f, .int .i64 x.s.g, .int .i64 x.s.h, .int .i64 x.s.r, .int .i64 2, .int .i64 x.q] 34))
      have VX := V.new w [.int .i64 x.s.a, .int .i64 x.s.b, .int .i64 x.s.c, .int .i64 x.s.d, .int .i64 x.s.e, .int .i64 x.s.f, .int .i64 x.s.g, .int .i64 x.s.h, .int .i64 x.s.r, .int .i64 2, .int .i64 x.q] 34
      obtain ⟨s_VX, f_VX, z_VX⟩ := VX.open
      have Bo := B
      go_wp2_with fail
      refine (CX.out _).mono ?_
      rintro e w51 ⟨rfl, b51⟩
      clear s_VX f_VX z_VX
      have S51 := b51.size
      simp only [World.size_alloc] at S51
      replace VX := VX.kept b51
      replace B := thenB B b51
      clear b51
      obtain ⟨s_VX, f_VX, z_VX⟩ := VX.open
      have Bo := B
      go_wp2_with fail
      refine (isAction_ok _ _).mono ?_
      rintro e wq ⟨rfl, rfl⟩
      rw [show btw 2 1 3 = true from btw_iff.2 (by decide)]
      clear s_VX f_VX z_VX
      have K : ∀ w' : World, Below wq.heap.size wq w' → (w'.cell? ⟨w.heap.size, 0, none⟩ = some (.int .i64 x.s.a) ∧ w'.cell? ⟨w.heap.size, 1, none⟩ = some (.int .i64 x.s.b) ∧ w'.cell? ⟨w.heap.size, 2, none⟩ = some (.int .i64 x.s.c) ∧ w'.cell? ⟨w.heap.size, 3, none⟩ = some (.int .i64 x.s.d) ∧ w'.cell? ⟨w.heap.size, 4, none⟩ = some (.int .i64 x.s.e) ∧ w'.cell? ⟨w.heap.size, 5, none⟩ = some (.int .i64 x.s.f) ∧ w'.cell? ⟨w.heap.size, 6, none⟩ = some (.int .i64 x.s.g) ∧ w'.cell? ⟨w.heap.size, 7, none⟩ = some (.int .i64 x.s.h) ∧ w'.cell? ⟨w.heap.size, 8, none⟩ = some (.int .i64 x.s.r) ∧ w'.cell? ⟨w.heap.size, 9, none⟩ = some (.int .i64 2) ∧ w'.cell? ⟨w.heap.size, 10, none⟩ = some (.int .i64 x.q)) := fun w' h => ⟨(VX.kept h).2.1 0 (by simp), (VX.kept h).2.1 1 (by simp), (VX.kept h).2.1 2 (by simp), (VX.kept h).2.1 3 (by simp), (VX.kept h).2.1 4 (by simp), (VX.kept h).2.1 5 (by simp), (VX.kept h).2.1 6 (by simp), (VX.kept h).2.1 7 (by simp), (VX.kept h).2.1 8 (by simp), (VX.kept h).2.1 9 (by simp), (VX.kept h).2.1 10 (by simp)⟩
      have K := Hid.mk K
      go_wp2_with fail
      refine wp_region_held_drew (S := (fun w' => w'.cell? ⟨w.heap.size, 0, none⟩ = some (.int .i64 x.s.a) ∧ w'.cell? ⟨w.heap.size, 1, none⟩ = some (.int .i64 x.s.b) ∧ w'.cell? ⟨w.heap.size, 2, none⟩ = some (.int .i64 x.s.c) ∧ w'.cell? ⟨w.heap.size, 3, none⟩ = some (.int .i64 x.s.d) ∧ w'.cell? ⟨w.heap.size, 4, none⟩ = some (.int .i64 x.s.e) ∧ w'.cell? ⟨w.heap.size, 5, none⟩ = some (.int .i64 x.s.f) ∧ w'.cell? ⟨w.heap.size, 6, none⟩ = some (.int .i64 x.s.g) ∧ w'.cell? ⟨w.heap.size, 7, none⟩ = some (.int .i64 x.s.h) ∧ w'.cell? ⟨w.heap.size, 8, none⟩ = some (.int .i64 x.s.r) ∧ w'.cell? ⟨w.heap.size, 9, none⟩ = some (.int .i64 2) ∧ w'.cell? ⟨w.heap.size, 10, none⟩ = some (.int .i64 x.q))) (by kernel_rfl) (K.out _ (Below.refl _ _).drew) (fun hHeld => ?_)
      refine wpAnyH_take (i := 0) (oi := _) (v := ?vz107u1) rfl (by kernel_rfl) (by kernel_rfl) (by kernel_rfl) (fun _ _ _ h => h) (Or.inl ⟨by rfl, ?hyz107u1⟩) hHeld ?restz107u1
      case hyz107u1 => (intro w hSw; (try dsimp only at hSw); go_simp; first | done | with_reducible rfl)
      try simp only [Act.put, List.getElem_toArray, List.getElem_cons_zero, List.setIfInBounds_toArray, List.set_cons_zero, List.set_cons_succ]
      refine wpAnyH_take (i := 1) (oi := _) (v := ?vz107u2) rfl (by kernel_rfl) (by kernel_rfl) (by kernel_rfl) (fun _ _ _ h => h) (Or.inl ⟨by rfl, ?hyz107u2⟩) hHeld ?restz107u2
      case hyz107u2 => (intro w hSw; (try dsimp only at hSw); go_simp; first | done | with_reducible rfl)
      try simp only [Act.put, List.getElem_toArray, List.getElem_cons_zero, List.getElem_cons_succ, List.setIfInBounds_toArray, List.set_cons_zero, List.set_cons_succ]
      refine wpAnyH_take (i := 4) (oi := _) (v := ?vz107u3) rfl (by kernel_rfl) (by kernel_rfl) (by kernel_rfl) (fun _ _ _ h => h) (Or.inl ⟨by rfl, ?hyz107u3⟩) hHeld ?restz107u3
      case hyz107u3 => (intro w hSw; (try dsimp only at hSw); go_simp; first | done | with_reducible rfl)
      try simp only [Act.put, List.getElem_toArray, List.getElem_cons_zero, List.getElem_cons_succ, List.setIfInBounds_toArray, List.set_cons_zero, List.set_cons_succ]
      refine wpAnyH_take (i := 5) (oi := _) (v := ?vz107u4) rfl (by kernel_rfl) (by kernel_rfl) (by kernel_rfl) (fun _ _ _ h => h) (Or.inl ⟨by rfl, ?hyz107u4⟩) hHeld ?restz107u4
      case hyz107u4 => (intro w hSw; (try dsimp only at hSw); go_simp; first | done | with_reducible rfl)
      try simp only [Act.put, List.getElem_toArray, List.getElem_cons_zero, List.getElem_cons_succ, List.setIfInBounds_toArray, List.set_cons_zero, List.set_cons_succ]
      refine wpAnyH_ready (rs := [2]) (by kernel_rfl) (by simp) ?_
      refine AllReadyH.cons (o := _) rfl (fun K0 hK0 => ?_) AllReadyH.nil
      go_simp
      go_at_call 117
      refine (CK2.out _).mono ?_
      rintro e wz107v5 ⟨rfl, bz107v5⟩
      refine hK0.out _ _ (K.out _ (thenB (Below.refl _ _).drew bz107v5)) (fun hHeld => ?_)
      clear hK0 K0
      try simp only [Act.put, List.getElem_toArray, List.getElem_cons_zero, List.getElem_cons_succ, List.setIfInBounds_toArray, List.set_cons_zero, List.set_cons_succ]
      refine wpAnyH_take (i := 3) (oi := _) (v := ?vz107u6) rfl (by kernel_rfl) (by kernel_rfl) (by kernel_rfl) (fun _ _ _ h => h) (Or.inl ⟨by rfl, ?hyz107u6⟩) hHeld ?restz107u6
      case hyz107u6 => (intro w hSw; (try dsimp only at hSw); go_simp; first | done | with_reducible rfl)
      try simp only [Act.put, List.getElem_toArray, List.getElem_cons_zero, List.getElem_cons_succ, List.setIfInBounds_toArray, List.set_cons_zero, List.set_cons_succ]
      refine wpAnyH_ready (rs := [6]) (by kernel_rfl) (by simp) ?_
      refine AllReadyH.cons (o := _) rfl (fun K0 hK0 => ?_) AllReadyH.nil
      go_simp
      go_at_call 141
      refine (isNoPeer_ok _ _).mono ?_
      rintro e wz107v7 ⟨rfl, rfl⟩
      refine hK0.out _ _ hHeld (fun hHeld => ?_)
      clear hK0 K0
      try simp only [Act.put, List.getElem_toArray, List.getElem_cons_zero, List.getElem_cons_succ, List.setIfInBounds_toArray, List.set_cons_zero, List.set_cons_succ]
      refine wpAnyH_take (i := 7) (oi := _) (v := ?vz107u8) rfl (by kernel_rfl) (by kernel_rfl) (by kernel_rfl) (fun _ _ _ h => h) (Or.inl ⟨by rfl, ?hyz107u8⟩) hHeld ?restz107u8
      case hyz107u8 => (intro w hSw; (try dsimp only at hSw); go_simp; first | done | with_reducible rfl)
      try simp only [Act.put, List.getElem_toArray, List.getElem_cons_zero, List.getElem_cons_succ, List.setIfInBounds_toArray, List.set_cons_zero, List.set_cons_succ]
      refine wpAnyH_done (by kernel_rfl) ?_ _
      clear K hHeld
      replace VX := VX.kept (thenB (Below.refl _ _).drew bz107v5)
      replace B := thenB B (thenB (Below.refl _ _).drew bz107v5)
      have Sz107 := ((thenB (Below.refl _ _).drew bz107v5)).size
      clear bz107v5
      obtain ⟨s_VX, f_VX, z_VX⟩ := VX.open
      have Bo := B
      go_wp2
      go_ret
      exact ⟨rfl, B⟩

set_option maxRecDepth 20000 in
set_option maxHeartbeats 4000000 in
theorem implPolicyFault_ok (a : Option Addr) (n ca : Nat) (xs : List R11) (w : World) (ha : RdRule w a xs) (hn : xs.length = n) (hx : n ≤ maxLen) :
    Calls Tryd.prog 26 #[.slice a n ca] w fun e w' => e = .returned (.int .i64 (pyC xs)) ∧ Below w.heap.size w w' := by
  unfold maxLen at hx
  by_cases h2 : 20 < n
  · have hr : pyC xs = 2 := by unfold pyC; rw [if_neg (by omega)]
    have d2 : decide ((20 : Int) < n) = true := by simp; omega
    rw [hr]
    clear hr h2
    go_enter Tryd.func26, Tryd.ntmps26
    go_wp2
    go_ret
    exact ⟨rfl, Below.refl _ _⟩
  have hr : pyC xs = pyF xs := by unfold pyC; rw [if_pos (by omega)]
  have d2 : decide ((20 : Int) < n) = false := by simp; omega
  rw [hr]
  clear hr h2
  go_enter Tryd.func26, Tryd.ntmps26
  go_wp2
  clear d2
  go_loopw [11] (fun i wr => ∃ k : Nat, k ≤ n ∧ i = .int .i64 k ∧ pyF (xs.drop k) = pyF xs ∧ Below w.heap.size w wr) (fun i _ => n - (intOf i).toNat)
  case atStart => exact ⟨0, Nat.zero_le _, rfl, rfl, Below.refl _ _⟩
  case round =>
    obtain ⟨k, hk, rfl, hdr, hbel⟩ := hrel
    by_cases hlt : k < n
    · obtain ⟨x, hx1⟩ : ∃ x, xs.getD k zRule = x := ⟨_, rfl⟩
      have hk1 : (k : Int) < (n : Int) := by omega
      have hs := pyF_drop xs k (by omega)
      rw [hx1, hdr] at hs
      have CX := Hid.mk (fun w => ruleFault_ok x w)
      replace ha := ha.kept hbel
      rcases ha with ha | ⟨b1, o1, rfl, hca⟩
      · simp [ha] at hn; omega
      have HQ := RdRule.cells hca k (by omega) x hx1
      clear hca hx1 hdr
      obtain ⟨p0, p1, p2, p3, p4, p5, p6, p7, p8, p9, p10⟩ := HQ
      have B := hbel
      generalize ruC x = c at *
      by_cases h0 : c = 0
      · skip
        subst h0
        rw [if_pos rfl] at hs
        have HS := Hid.mk hs
        clear hs hbel
        replace B := thenB B (belowA wr (.cells #[.int .i64 x.s.a, .int .i64 x.s.b, .int .i64 x.s.c, .int .i64 x.s.d, .int .i64 x.s.e, .int .i64 x.s.f, .int .i64 x.s.g, .int .i64 x.s.h, .int .i64 x.s.r, .int .i64 x.p, .int .i64 x.q] 34))
        have VR := V.new wr [.int .i64 x.s.a, .int .i64 x.s.b, .int .i64 x.s.c, .int .i64 x.s.d, .int .i64 x.s.e, .int .i64 x.s.f, .int .i64 x.s.g, .int .i64 x.s.h, .int .i64 x.s.r, .int .i64 x.p, .int .i64 x.q] 34
        obtain ⟨s_VR, f_VR, z_VR⟩ := VR.open
        have Bo := B
        go_wp2_with fail
        refine (CX.out _).mono ?_
        rintro e w1 ⟨rfl, b1⟩
        clear s_VR f_VR z_VR
        have S1 := b1.size
        simp only [World.size_alloc] at S1
        replace VR := VR.kept b1
        replace B := thenB B b1
        clear b1
        obtain ⟨s_VR, f_VR, z_VR⟩ := VR.open
        have Bo := B
        have BX := Hid.mk Bo
        clear p0 p1 p2 p3 p4 p5 p6 p7 p8 p9 p10 Bo
        go_wp2
        go_roundw
        case rel => exact ⟨k + 1, by omega, by go_num, HS.out.symm, BX.out⟩
        case measure => simp [intOf]; omega
      · skip
        rw [if_neg h0] at hs
        have h1 : (c != 0) = true := by simpa using h0
        clear h0
        have HS := Hid.mk hs
        clear hs hbel
        replace B := thenB B (belowA wr (.cells #[.int .i64 x.s.a, .int .i64 x.s.b, .int .i64 x.s.c, .int .i64 x.s.d, .int .i64 x.s.e, .int .i64 x.s.f, .int .i64 x.s.g, .int .i64 x.s.h, .int .i64 x.s.r, .int .i64 x.p, .int .i64 x.q] 34))
        have VR := V.new wr [.int .i64 x.s.a, .int .i64 x.s.b, .int .i64 x.s.c, .int .i64 x.s.d, .int .i64 x.s.e, .int .i64 x.s.f, .int .i64 x.s.g, .int .i64 x.s.h, .int .i64 x.s.r, .int .i64 x.p, .int .i64 x.q] 34
        obtain ⟨s_VR, f_VR, z_VR⟩ := VR.open
        have Bo := B
        go_wp2_with fail
        refine (CX.out _).mono ?_
        rintro e w11 ⟨rfl, b11⟩
        clear s_VR f_VR z_VR
        have S11 := b11.size
        simp only [World.size_alloc] at S11
        replace VR := VR.kept b11
        replace B := thenB B b11
        clear b11
        obtain ⟨s_VR, f_VR, z_VR⟩ := VR.open
        have Bo := B
        have BX := Hid.mk Bo
        clear p0 p1 p2 p3 p4 p5 p6 p7 p8 p9 p10 Bo
        go_wp2
        go_ret
        exact ⟨ret_int HS.out.symm, BX.out⟩
    · have hkn : k = n := by omega
      subst hkn
      rw [List.drop_of_length_le (by omega)] at hdr
      have HS := Hid.mk hdr
      clear hdr
      go_wp2
      go_ret
      exact ⟨ret_int HS.out, hbel⟩

end Go.Proofs.YtngkahchhioncaaDoor
