/- The draws for 'PutNumber' and for the sums. -/
import Derived.Test.YthjaehcfakjemaaDoorDraw
namespace Go.Proofs.YthjaehcfakjemaaDoor
open Go.RowKit

/-- A list of numbers that the call has just laid. -/
theorem lit_cells (w : World) (ns : List Int) (cs : Array Value) (e : TypeId) (h : cs = (ns.map (Value.int .i64)).toArray) : ∀ i, i < ns.length → (w.alloc (.cells cs e)).cell? ⟨w.heap.size, i, none⟩ = some (.int .i64 (ns.getD i 0)) := by
  intro i hi
  subst h
  rw [World.cell?_alloc_at _ _ _ _ rfl]
  simp [List.getD, hi]

theorem l1Min_ok (x y : Int) (w : World) : Calls Tryd.prog 64 #[.int .i64 x, .int .i64 y] w fun e w' => e = .returned (.int .i64 (min x y)) ∧ w' = w := by
  rcases (by omega : x < y ∨ y ≤ x) with h | h
  · have e : min x y = x := by omega
    have E := Hid.mk e
    clear e
    go_enter Tryd.func64, Tryd.ntmps64
    go_wp2
    go_ret
    exact ⟨ret_int E.out.symm, rfl⟩
  · have e : min x y = y := by omega
    have E := Hid.mk e
    clear e
    go_enter Tryd.func64, Tryd.ntmps64
    go_wp2
    go_ret
    exact ⟨ret_int E.out.symm, rfl⟩

theorem l1Max_ok (x y : Int) (w : World) : Calls Tryd.prog 43 #[.int .i64 x, .int .i64 y] w fun e w' => e = .returned (.int .i64 (max x y)) ∧ w' = w := by
  rcases (by omega : y < x ∨ x ≤ y) with h | h
  · have e : max x y = x := by omega
    have E := Hid.mk e
    clear e
    go_enter Tryd.func43, Tryd.ntmps43
    go_wp2
    go_ret
    exact ⟨ret_int E.out.symm, rfl⟩
  · have e : max x y = y := by omega
    have E := Hid.mk e
    clear e
    go_enter Tryd.func43, Tryd.ntmps43
    go_wp2
    go_ret
    exact ⟨ret_int E.out.symm, rfl⟩

/-- Where a slice that reads lies. -/
theorem Rd.some_lt {k : IntKind} {w : World} {a : Option Addr} {zs : List Int} (h : Rd k w a zs) : zs = [] ∨ ∀ b, a = some b → b.block < w.heap.size := by
  rcases h with h | ⟨b, off, rfl, hc⟩
  · exact .inl h
  · by_cases hp : zs = []
    · exact .inl hp
    · right
      intro b' hb'
      simp at hb'
      subst hb'
      exact World.block_lt_of_cell? (a := ⟨b, off + 0, none⟩) w (hc 0 (by cases zs with | nil => exact absurd rfl hp | cons _ _ => simp))

theorem Src.new (w : World) (a : Option Addr) (n ca : Nat) (zs : List Int) (e : TypeId) (h : Rd .u8 w a zs) :
    Src (w.alloc (.cells #[.slice a n ca, .int .i64 0] e)) w.heap.size a n ca zs 0 :=
  ⟨At.new2 w _ _ e, World.frozen?_alloc_at _ _ _ _ rfl, h.kept (belowA _ _), Rd.some_lt h⟩

end Go.Proofs.YthjaehcfakjemaaDoor
