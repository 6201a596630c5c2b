/- The law on 'PutNumber': its walk. -/
import Derived.Test.YtnclfbliimcpgaaHeldR
import Derived.Test.YtnclfbliimcpgaaPut
namespace Go.Proofs.Ytnclfbliimcpgaa
open Go.RowKit

theorem ptVal_length (n s : Int) : (ptVal n s).length ≤ 7 := by
  unfold ptVal
  split
  · rename_i h
    rw [length_putN]
    have := h.2.1
    omega
  · simp

set_option maxHeartbeats 1000000 in
theorem xPut_walk (n s : Int) (w : World) :
    Calls Try.prog 6 #[.int .i64 n, .int .i64 s] w fun e w' => e = .returned (.bool true) ∧ Below w.heap.size w w' := by
  have hl := ptVal_length n s
  have hx' : (ptVal n s).length ≤ maxLen := by unfold maxLen; omega
  obtain ⟨m, hm⟩ : ∃ m, (ptVal n s).length = m := ⟨_, rfl⟩
  obtain ⟨xs, hxs⟩ : ∃ xs, ptVal n s = xs := ⟨_, rfl⟩
  obtain ⟨k, hk⟩ : ∃ k, ptCode n s = k := ⟨_, rfl⟩
  have cs := fun w => specPutNumber_ok n s w
  have ci := fun w => implPutNumber_ok n s w
  rw [hm] at hl hx'
  simp only [hxs, hk] at cs ci hm
  simp only [hm] at cs ci
  have CS := Hid.mk cs
  have CI := Hid.mk ci
  have HM := Hid.mk hm
  clear cs ci hm hxs hk
  go_enter Try.func6, Try.ntmps6
  go_wp2_with fail
  refine (CS.out _).mono ?_
  rintro e w1 ⟨c1, d1, rfl, o1, b1⟩
  have A0 := At.new2 w1 (.int .i64 k) (.slice c1 m d1) 27
  have o1' := o1.kept (belowA w1 (.cells #[.int .i64 k, .slice c1 m d1] 27))
  go_wp2_with fail
  refine (CI.out _).mono ?_
  rintro e w2 ⟨c2, d2, rfl, o2, b2⟩
  have A0 := A0.kept b2
  have o1 := o1'.kept b2
  have A1 := At.new2 w2 (.int .i64 k) (.slice c2 m d2) 27
  have o2' := o2.kept (belowA w2 (.cells #[.int .i64 k, .slice c2 m d2] 27))
  have A0 := A0.kept (belowA w2 (.cells #[.int .i64 k, .slice c2 m d2] 27))
  have o1 := o1.kept (belowA w2 (.cells #[.int .i64 k, .slice c2 m d2] 27))
  obtain ⟨f1, f2, f3⟩ := A0.two
  go_wp2_with fail
  refine (eqBytesResult_ok k c2 c1 m d2 d1 xs _ o2'.rd o1.rd HM.out hx').mono ?_
  rintro e w3 ⟨rfl, b3⟩
  clear f1 f2 f3
  have A0 := A0.kept b3
  have A1 := A1.kept b3
  have o1 := o1.kept b3
  have o2 := o2'.kept b3
  have hlo : ∀ b, c2 = some b → w1.heap.size < b.block ∧ b.block < w2.heap.size := fun b hb => by
    have h1 := o2'.lt b hb
    have h2 := (Own.lt ‹Own .u8 5 w2 _ c2 d2 xs› b hb).2
    simp at h1
    omega
  have hl1 : ∀ b, c1 = some b → b.block < w1.heap.size := fun b hb => (Own.lt ‹Own .u8 5 w1 _ c1 d1 xs› b hb).2
  have n0 : c2.map Addr.block ≠ some w1.heap.size := row_ne fun b hb => by have := hlo b hb; omega
  have n1 : c2.map Addr.block ≠ some w2.heap.size := row_ne fun b hb => by have := hlo b hb; omega
  have n2 : ∀ b, c1 = some b → c2.map Addr.block ≠ some b.block := fun b hb => row_ne fun b' hb' => by have := hlo b' hb'; have := hl1 b hb; omega
  obtain ⟨f1, f2, f3⟩ := A1.two
  go_wp2_with fail
  refine (markBytesResult_ok k c2 m d2 _ xs 1 _ o2 HM.out (by omega) (by omega)).mono ?_
  rintro e w4 ⟨rfl, o2, g4⟩
  clear f1 f2 f3
  have A0 := A0.grown g4 n0
  have A1 := A1.grown g4 n1
  have o1 := o1.grown g4 n2
  obtain ⟨f1, f2, f3⟩ := A1.two
  go_wp2_with fail
  refine (heldBytesResult_ok k c2 m d2 1 _ o2.rd (by omega) (by omega)).mono ?_
  rintro e w5 ⟨rfl, b5⟩
  clear f1 f2 f3
  have A0 := A0.kept b5
  have A1 := A1.kept b5
  have o1 := o1.kept b5
  have o2 := o2.kept b5
  have hq : 0 ≤ 1 + (m : Int) := by omega
  go_wp2_with fail
  refine (CI.out _).mono ?_
  rintro e w6 ⟨c6, d6, rfl, o6, b6⟩
  have A0 := (A0.kept b6).kept (belowA w6 (.cells #[.int .i64 k, .slice c6 m d6] 27))
  have A1 := (A1.kept b6).kept (belowA w6 (.cells #[.int .i64 k, .slice c6 m d6] 27))
  have o1 := (o1.kept b6).kept (belowA w6 (.cells #[.int .i64 k, .slice c6 m d6] 27))
  have o2 := (o2.kept b6).kept (belowA w6 (.cells #[.int .i64 k, .slice c6 m d6] 27))
  have o6' := o6.kept (belowA w6 (.cells #[.int .i64 k, .slice c6 m d6] 27))
  obtain ⟨f1, f2, f3⟩ := A0.two
  go_wp2_with fail
  refine (eqBytesResult_ok k c6 c1 m d6 d1 xs _ o6'.rd o1.rd HM.out hx').mono ?_
  rintro e w7 ⟨rfl, b7⟩
  clear f1 f2 f3
  have A1 := A1.kept b7
  have o2 := o2.kept b7
  obtain ⟨f1, f2, f3⟩ := A1.two
  go_wp2_with fail
  refine (heldBytesResult_ok k c2 m d2 1 _ o2.rd (by omega) (by omega)).mono ?_
  rintro e w8 ⟨rfl, b8⟩
  clear f1 f2 f3
  go_wp2
  go_ret
  have B3 := thenB (thenB (thenB (thenB b1 (belowA _ _)) b2) (belowA _ _)) b3
  have B4 := belowG B3 g4 B3.size fun b hb => by have := hlo b hb; have := b1.size; omega
  exact ⟨rfl, B4.trans ((thenB (thenB (thenB (thenB b5 b6) (belowA _ _)) b7) b8).mono B4.size)⟩

end Go.Proofs.Ytnclfbliimcpgaa
