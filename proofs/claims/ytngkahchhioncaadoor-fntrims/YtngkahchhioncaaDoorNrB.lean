/- Lists of selectors narrowed: the program. -/
import Derived.Test.YtngkahchhioncaaDoorNrA
import Derived.Test.YtngkahchhioncaaDoorMtB
import Derived.Test.YtngkahchhioncaaDoorSelW
namespace Go.Proofs.YtngkahchhioncaaDoor
open Go.RowKit

set_option maxHeartbeats 2000000 in
theorem isWithinAny_ok (z : S9) (a : Option Addr) (n ca : Nat) (xs : List S9) (w : World) (ha : RdL w a xs) (hn : xs.length = n) (hx : n ≤ maxLen) :
    Calls Tryd.prog 75 #[.agg #[.int .i64 z.a, .int .i64 z.b, .int .i64 z.c, .int .i64 z.d, .int .i64 z.e, .int .i64 z.f, .int .i64 z.g, .int .i64 z.h, .int .i64 z.r], .slice a n ca] w fun e w' => e = .returned (.bool (xs.any fun o => wiP z o)) ∧ Below w.heap.size w w' := by
  unfold maxLen at hx
  have VP := V.new w [.int .i64 z.a, .int .i64 z.b, .int .i64 z.c, .int .i64 z.d, .int .i64 z.e, .int .i64 z.f, .int .i64 z.g, .int .i64 z.h, .int .i64 z.r] 32
  have B := belowA w (.cells #[.int .i64 z.a, .int .i64 z.b, .int .i64 z.c, .int .i64 z.d, .int .i64 z.e, .int .i64 z.f, .int .i64 z.g, .int .i64 z.h, .int .i64 z.r] 32)
  replace ha := ha.kept B
  go_enter Tryd.func75, Tryd.ntmps75
  go_wp2
  go_loopw [9] (fun i wr => ∃ k : Nat, k ≤ n ∧ i = .int .i64 k ∧ ((xs.drop k).any fun o => wiP z o) = (xs.any fun o => wiP z o) ∧ V wr w.heap.size [.int .i64 z.a, .int .i64 z.b, .int .i64 z.c, .int .i64 z.d, .int .i64 z.e, .int .i64 z.f, .int .i64 z.g, .int .i64 z.h, .int .i64 z.r] ∧ RdL wr a xs ∧ Below w.heap.size w wr) (fun i _ => n - (intOf i).toNat)
  case atStart => exact ⟨0, Nat.zero_le _, rfl, rfl, VP, ha, B⟩
  case round =>
    clear VP ha B
    obtain ⟨k, hk, rfl, hdr, VP, ha, B⟩ := hrel
    by_cases hlt : k < n
    · have HA := Hid.mk ha
      rcases ha with ha | ⟨b1, o1, rfl, hca⟩
      · simp [ha] at hn; omega
      obtain ⟨x, hx1⟩ : ∃ x, xs.getD k z9 = x := ⟨_, rfl⟩
      obtain ⟨p0, p1, p2, p3, p4, p5, p6, p7, p8⟩ := RdL.nine hca k (by omega) x hx1
      have hk1 : (k : Int) < (n : Int) := by omega
      have hs := any_dropS (fun o => wiP z o) xs k (by omega) hx1
      rw [hdr] at hs
      clear hca hx1 hdr
      have CX := Hid.mk (fun w => implWithinSel_ok z x w)
      replace VP := VP.kept (belowA wr (.cells #[.int .i64 x.a, .int .i64 x.b, .int .i64 x.c, .int .i64 x.d, .int .i64 x.e, .int .i64 x.f, .int .i64 x.g, .int .i64 x.h, .int .i64 x.r] 32))
      have VQ := V.new wr [.int .i64 x.a, .int .i64 x.b, .int .i64 x.c, .int .i64 x.d, .int .i64 x.e, .int .i64 x.f, .int .i64 x.g, .int .i64 x.h, .int .i64 x.r] 32
      replace B := B.alloc B.size (.cells #[.int .i64 x.a, .int .i64 x.b, .int .i64 x.c, .int .i64 x.d, .int .i64 x.e, .int .i64 x.f, .int .i64 x.g, .int .i64 x.h, .int .i64 x.r] 32)
      replace HA := Hid.mk (HA.out.kept (belowA wr (.cells #[.int .i64 x.a, .int .i64 x.b, .int .i64 x.c, .int .i64 x.d, .int .i64 x.e, .int .i64 x.f, .int .i64 x.g, .int .i64 x.h, .int .i64 x.r] 32)))
      obtain ⟨s_VP, f_VP, z_VP⟩ := VP.open
      obtain ⟨s_VQ, f_VQ, z_VQ⟩ := VQ.open
      have HS := Hid.mk hs
      clear hs
      cases hg : wiP z x
      all_goals
        rw [hg] at CX HS
        clear hg
        go_wp2_with fail
        refine (CX.out _).mono ?_
        rintro e w2 ⟨rfl, b2⟩
        replace VP := Hid.mk (VP.kept b2)
        replace B := Hid.mk (B.trans (b2.mono B.size))
        replace HA := Hid.mk (HA.out.kept b2)
        clear b2 s_VP f_VP z_VP s_VQ f_VQ z_VQ VQ p0 p1 p2 p3 p4 p5 p6 p7 p8
      · rw [Bool.false_or] at HS
        go_wp2
        go_roundw
        case rel => exact ⟨k + 1, by omega, by go_num, HS.out.symm, VP.out, HA.out, B.out⟩
        case measure => simp [intOf]; omega
      · go_wp2
        go_ret
        exact ⟨ret_bool HS.out.symm, B.out⟩
    · have hkn : k = n := by omega
      subst hkn
      rw [List.drop_of_length_le (by omega)] at hdr
      have HS := Hid.mk hdr
      clear hdr
      go_wp2
      go_ret
      exact ⟨ret_bool HS.out, B⟩

end Go.Proofs.YtngkahchhioncaaDoor
