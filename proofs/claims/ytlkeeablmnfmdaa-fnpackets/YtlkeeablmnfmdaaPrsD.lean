/- 'ParsePacket' of the program, whole. -/
import Derived.Test.YtlkeeablmnfmdaaPrsC
namespace Go.Proofs.Ytlkeeablmnfmdaa
open Go.RowKit

theorem pof_no (s : Value) (k : Int) (w : World)
    (C : Hid (Calls Try.prog 65 #[s] (w.alloc (.cells #[.int .i64 0, .int .i64 0, .int .i64 0, .int .i64 0, .int .i64 0, .int .i64 0, .int .i64 0, .slice none 0 0] 28)) fun e w' => e = stop k ∧ Below (w.heap.size + 1) (w.alloc (.cells #[.int .i64 0, .int .i64 0, .int .i64 0, .int .i64 0, .int .i64 0, .int .i64 0, .int .i64 0, .slice none 0 0] 28)) w')) :
    Calls Try.prog 39 #[s] w fun e w' => e = .returned (.agg #[.int .i64 k, .int .i64 0, .int .i64 0, .int .i64 0, .int .i64 0, .int .i64 0, .int .i64 0, .slice none 0 0]) ∧ Below w.heap.size w w' := by
  have hmf : ∀ (fn : Fn) (first cap : Array Value) (w : World), (Instr.makeFunc fn first cap).run Try.prog w = .ok (.func fn first cap) w := fun _ _ _ _ => rfl
  go_enter_defers Try.func39, Try.ntmps39
  go_wp2_with fail
  refine C.out.mono ?_
  rintro e w1 ⟨rfl, b1⟩
  have VR := (V.new w zero8 28).keptB (by omega) b1
  have B := (belowA w _).trans (b1.mono (by omega))
  clear b1
  go_wp2
  refine leaves_cons (f := 63) (args := #[.pointer (some ⟨w.heap.size, 0, none⟩)]) (by simp) (by simp [go_sem]) ?_
  refine (catch_panicking w.heap.size k _ VR).mono ?_
  rintro e u' w2 ⟨rfl, rfl, V2, b2⟩
  obtain ⟨s0, f0, z0⟩ := V2.open
  have B2 := B.trans b2
  simp [Leaves, settle, results, Try.results39, go_sem, f0]
  exact B2

set_option maxHeartbeats 1000000 in
theorem pof_yes (s : Value) (F T r l x y : Int) (m : Nat) (ys : List Int) (w : World)
    (C : Hid (Calls Try.prog 65 #[s] (w.alloc (.cells #[.int .i64 0, .int .i64 0, .int .i64 0, .int .i64 0, .int .i64 0, .int .i64 0, .int .i64 0, .slice none 0 0] 28)) fun e w' => ∃ c d, e = .returned (.agg #[.int .i64 F, .int .i64 T, .int .i64 r, .int .i64 l, .int .i64 x, .int .i64 y, .slice c m d]) ∧ Own .u8 5 w' (w.heap.size + 1) c d ys ∧ Below (w.heap.size + 1) (w.alloc (.cells #[.int .i64 0, .int .i64 0, .int .i64 0, .int .i64 0, .int .i64 0, .int .i64 0, .int .i64 0, .slice none 0 0] 28)) w')) :
    Calls Try.prog 39 #[s] w fun e w' => ∃ c d, e = .returned (.agg #[.int .i64 0, .int .i64 F, .int .i64 T, .int .i64 r, .int .i64 l, .int .i64 x, .int .i64 y, .slice c m d]) ∧ Own .u8 5 w' w.heap.size c d ys ∧ Below w.heap.size w w' := by
  have hmf : ∀ (fn : Fn) (first cap : Array Value) (w : World), (Instr.makeFunc fn first cap).run Try.prog w = .ok (.func fn first cap) w := fun _ _ _ _ => rfl
  go_enter_defers Try.func39, Try.ntmps39
  go_wp2_with fail
  refine C.out.mono ?_
  rintro e w1 ⟨c, d, rfl, o, b1⟩
  have VR := (V.new w zero8 28).keptB (by omega) b1
  have B := (belowA w _).trans (b1.mono (by omega))
  have O := Hid.mk o
  obtain ⟨s0, f0, z0⟩ := VR.open
  clear b1 o
  go_wp2
  refine leaves_cons (f := 63) (args := #[.pointer (some ⟨w.heap.size, 0, none⟩)]) (by simp) (by simp [go_sem]) ?_
  refine (catch_idle w.heap.size _).mono ?_
  rintro e u' w2 ⟨rfl, rfl, rfl⟩
  simp [Leaves, settle, results, Try.results39, go_sem, f0]
  refine ⟨c, d, ⟨rfl, rfl⟩, ?_, ?_⟩
  · refine Own.mono (base := w.heap.size + 1) ?_ (by omega)
    repeat' first | with_reducible exact O.out | with_reducible refine Own.below ?_ ?_ _ | (simp; try omega)
  · repeat' first | with_reducible exact B | with_reducible refine Below.setCell ?_ ?_ _ | (simp; try omega)

end Go.Proofs.Ytlkeeablmnfmdaa
