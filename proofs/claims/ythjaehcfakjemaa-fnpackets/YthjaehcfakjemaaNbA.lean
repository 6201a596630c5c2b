/- 'numberBytes', by its contract. -/
import Derived.Test.YthjaehcfakjemaaRow
import Derived.Test.YthjaehcfakjemaaZl
import Derived.Test.YthjaehcfakjemaaPkt
import Derived.Test.YthjaehcfakjemaaPut
namespace Go.Proofs.Ythjaehcfakjemaa
open Go.RowKit

theorem ptVal_of {n : Int} {s : Nat} (h : ptIn n s) : ptVal n s = putN n s := by
  unfold ptVal; rw [if_pos h]; rfl

theorem numberBytes_ok (n : Int) (s : Nat) (w : World) (h : ptIn n s) :
    Calls Try.prog 49 #[.int .i64 n, .int .i64 (s : Int)] w fun e w' => ∃ c d, e = .returned (.slice c s d) ∧ Own .u8 5 w' w.heap.size c d (putN n s) ∧ Below w.heap.size w w' := by
  have C := Hid.mk (fun w => implPutNumber_ok n s w)
  rw [ptVal_of h, length_putN] at C
  go_enter Try.func49, Try.ntmps49
  go_wp2_with fail
  refine (C.out _).mono ?_
  rintro e w1 ⟨c, d, rfl, o1, b1⟩
  have O1 := Hid.mk o1
  clear o1
  have hfd : ∀ wx : World, (Instr.field 31 (.agg #[.int .i64 (ptCode n s), .slice c s d]) 1).run Try.prog wx = .ok (.slice c s d) wx := fun _ => by kernel_rfl
  go_wp2
  go_ret
  exact ⟨c, d, rfl, O1.out, b1⟩

end Go.Proofs.Ythjaehcfakjemaa
