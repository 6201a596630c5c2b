/- The draws for 'PutNumber' and for the sums. -/
import Derived.Test.YtnclfbliimcpgaaDraw
namespace Go.Proofs.Ytnclfbliimcpgaa
open Go.RowKit

/-- A list of numbers that the call has just laid. -/
theorem lit_cells (w : World) (ns : List Int) (cs : Array Value) (e : TypeId) (h : cs = (ns.map (Value.int .i64)).toArray) : ∀ i, i < ns.length → (w.alloc (.cells cs e)).cell? ⟨w.heap.size, i, none⟩ = some (.int .i64 (ns.getD i 0)) := by
  intro i hi
  subst h
  rw [World.cell?_alloc_at _ _ _ _ rfl]
  simp [List.getD, hi]

theorem l1Min_ok (x y : Int) (w : World) : Calls Try.prog 36 #[.int .i64 x, .int .i64 y] w fun e w' => e = .returned (.int .i64 (min x y)) ∧ w' = w := by
  rcases (by omega : x < y ∨ y ≤ x) with h | h
  · have e : min x y = x := by omega
    have E := Hid.mk e
    clear e
    go_enter Try.func36, Try.ntmps36
    go_wp2
    go_ret
    exact ⟨ret_int E.out.symm, rfl⟩
  · have e : min x y = y := by omega
    have E := Hid.mk e
    clear e
    go_enter Try.func36, Try.ntmps36
    go_wp2
    go_ret
    exact ⟨ret_int E.out.symm, rfl⟩

theorem l1Max_ok (x y : Int) (w : World) : Calls Try.prog 35 #[.int .i64 x, .int .i64 y] w fun e w' => e = .returned (.int .i64 (max x y)) ∧ w' = w := by
  rcases (by omega : y < x ∨ x ≤ y) with h | h
  · have e : max x y = x := by omega
    have E := Hid.mk e
    clear e
    go_enter Try.func35, Try.ntmps35
    go_wp2
    go_ret
    exact ⟨ret_int E.out.symm, rfl⟩
  · have e : max x y = y := by omega
    have E := Hid.mk e
    clear e
    go_enter Try.func35, Try.ntmps35
    go_wp2
    go_ret
    exact ⟨ret_int E.out.symm, rfl⟩

/-- Where a slice that reads lies. -/
theorem Rd.some_lt {k : IntKind} {w : World} {a : Option Addr} {zs : List Int} (h : Rd k w a zs) : zs = [] ∨ ∀ b, a = some b → b.block < w.heap.size := by
  rcases h with h | ⟨b, off, rfl, hc⟩
  · exact .inl h
  · by_cases hp : zs = []
    · exact .inl hp
    · right
      intro b' hb'
      simp at hb'
      subst hb'
      exact World.block_lt_of_cell? (a := ⟨b, off + 0, none⟩) w (hc 0 (by cases zs with | nil => exact absurd rfl hp | cons _ _ => simp))

theorem Src.new (w : World) (a : Option Addr) (n ca : Nat) (zs : List Int) (e : TypeId) (h : Rd .u8 w a zs) :
    Src (w.alloc (.cells #[.slice a n ca, .int .i64 0] e)) w.heap.size a n ca zs 0 :=
  ⟨At.new2 w _ _ e, World.frozen?_alloc_at _ _ _ _ rfl, h.kept (belowA _ _), Rd.some_lt h⟩

set_option maxHeartbeats 1000000 in
theorem drawPutNumber_ok (a : Option Addr) (n ca : Nat) (zs : List Int) (w : World) (ha : Rd .u8 w a zs) (hb : Bytes zs) (hn : zs.length = n) (hx : n ≤ 1048576) :
    Calls Try.prog 10 #[.slice a n ca] w fun e w' => ∃ x s : Int, e = .returned (.tuple #[.int .i64 x, .int .i64 s]) ∧ Below w.heap.size w w' := by
  go_enter Try.func10, Try.ntmps10
  go_wp2_with (first | (go_at_call 33; go_in))
  have S0 := Src.new w a n ca zs 71 ha
  refine (l1Pick_ok w.heap.size a n ca zs 0 (w.heap.size + 1) 7 7 [1, 2, 4, 7, 2, 0, 8] _ (S0.kept (belowA _ _)) hb hn hx (by omega) rfl (by omega) (by omega) (fun i hi => ?_) (by omega)).mono ?_
  · rw [World.cell?_alloc_at _ _ _ _ (by simp)]
    match i, hi with
    | 0, _ => rfl
    | 1, _ => rfl
    | 2, _ => rfl
    | 3, _ => rfl
    | 4, _ => rfl
    | 5, _ => rfl
    | 6, _ => rfl
  rintro e w1 ⟨s, rfl, hs, S1, g1⟩
  have hk : ∃ k : Nat, 1 ≤ k ∧ k ≤ 7 ∧ max 1 (min 7 s) = (k : Int) := by
    simp at hs
    rcases hs with rfl | rfl | rfl | rfl | rfl | rfl | rfl
    · exact ⟨1, by omega, by omega, rfl⟩
    · exact ⟨2, by omega, by omega, rfl⟩
    · exact ⟨4, by omega, by omega, rfl⟩
    · exact ⟨7, by omega, by omega, rfl⟩
    · exact ⟨2, by omega, by omega, rfl⟩
    · exact ⟨1, by omega, by omega, rfl⟩
    · exact ⟨7, by omega, by omega, rfl⟩
  obtain ⟨k, k1, k2, hk⟩ := hk
  have HK := Hid.mk hk
  clear hk hs
  go_wp2_with fail
  refine (l1Min_ok 7 s _).mono ?_
  rintro e w2 ⟨rfl, rfl⟩
  go_wp2_with fail
  refine (l1Max_ok 1 (min 7 s) _).mono ?_
  rintro e w3 ⟨rfl, rfl⟩
  rw [HK.out]
  go_wp2_with fail
  refine (l1Next_ok w.heap.size a n ca zs 1 200 _ S1 hb hn hx (by omega) (by omega)).mono ?_
  rintro e w4 ⟨v4, rfl, _, _, S4, g4⟩
  go_wp2_with fail
  refine (l1Next_ok w.heap.size a n ca zs 2 60000 _ S4 hb hn hx (by omega) (by omega)).mono ?_
  rintro e w5 ⟨v5, rfl, _, _, S5, g5⟩
  have hsz : w.heap.size < w5.heap.size := S5.1.1
  generalize wrap64 ((2 : Int) ^ (8 * k)) = T at *
  go_wp2_with fail
  refine (l1Pick_ok w.heap.size a n ca zs 3 w5.heap.size 7 7 [v4, v5, wrap64 (T - 1), T, 0, -1, 4611686018427387904] _ (S5.kept (belowA _ _)) hb hn hx (by omega) rfl (by omega) (by omega) (fun i hi => ?_) (by omega)).mono ?_
  · exact lit_cells w5 [v4, v5, wrap64 (T - 1), T, 0, -1, 4611686018427387904] _ _ (by simp) i hi
  rintro e w6 ⟨x, rfl, _, S6, g6⟩
  go_wp2
  go_ret2
  refine ⟨x, s, rfl, ?_⟩
  have B1 := Below.grown (belowA2 w (.cells #[.slice a n ca, .int .i64 0] 71) (.cells #[.int .i64 1, .int .i64 2, .int .i64 4, .int .i64 7, .int .i64 2, .int .i64 0, .int .i64 8] 2)) g1 (by simp; omega) (by simp)
  have B4 := B1.grown g4 B1.size (by simp)
  have B5 := B4.grown g5 B4.size (by simp)
  exact (B5.alloc B5.size _).grown g6 (by have := B5.size; simp; omega) (by simp)

end Go.Proofs.Ytnclfbliimcpgaa
