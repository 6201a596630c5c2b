/- The ports' bytes, and 'BuildPacket' of the program. -/
import Derived.Test.YthjaehcfakjemaaBuild
namespace Go.Proofs.Ythjaehcfakjemaa
open Go.RowKit
set_option maxRecDepth 40000

/-- The ports' bytes. -/
@[irreducible] def portP (r x y : Int) : List Int := if portsP r = true then putN x 2 ++ putN y 2 else []

theorem portP_yes {r : Int} (h : portsP r = true) (x y : Int) : portP r x y = putN x 2 ++ putN y 2 := by unfold portP; rw [if_pos h]
theorem portP_no {r : Int} (h : portsP r = false) (x y : Int) : portP r x y = [] := by unfold portP; rw [if_neg (by simp [h])]
theorem portP_len (r x y : Int) : (portP r x y).length ≤ 4 := by unfold portP; split <;> simp [length_putN]

set_option maxHeartbeats 1000000 in
theorem portBytes_ok (f t r l x y : Int) (a : Option Addr) (n ca : Nat) (w : World) (hx : 0 ≤ x ∧ x ≤ 65535) (hy : 0 ≤ y ∧ y ≤ 65535) :
    Calls Try.prog 29 #[.agg #[.int .i64 f, .int .i64 t, .int .i64 r, .int .i64 l, .int .i64 x, .int .i64 y, .slice a n ca]] w fun e w' =>
      ∃ c d, e = .returned (.slice c (portP r x y).length d) ∧ Own .u8 5 w' w.heap.size c d (portP r x y) ∧ Below w.heap.size w w' := by
  obtain ⟨i0, hi, q0, q1, q2⟩ := info_parts Try.info_u8
  have V0 := V.new w [.int .i64 f, .int .i64 t, .int .i64 r, .int .i64 l, .int .i64 x, .int .i64 y, .slice a n ca] 26
  have B := belowA w (.cells #[.int .i64 f, .int .i64 t, .int .i64 r, .int .i64 l, .int .i64 x, .int .i64 y, .slice a n ca] 26)
  rcases bool_cases (p := portsP r) with hp | hp
  · rw [portP_yes hp, List.length_append, length_putN, length_putN]
    obtain ⟨W, hW⟩ : ∃ W, W = w.alloc (.cells #[.int .i64 f, .int .i64 t, .int .i64 r, .int .i64 l, .int .i64 x, .int .i64 y, .slice a n ca] 26) := ⟨_, rfl⟩
    have hs : w.heap.size + 1 = W.heap.size := by rw [hW]; simp
    have HW := Hid.mk hW
    have V1 : V W w.heap.size [.int .i64 f, .int .i64 t, .int .i64 r, .int .i64 l, .int .i64 x, .int .i64 y, .slice a n ca] := by rw [hW]; exact V0
    have B1 : Below w.heap.size w W := by rw [hW]; exact B
    have K : ∀ w' : World, Below W.heap.size W w' → (w'.cell? ⟨w.heap.size, 4, none⟩ = some (.int .i64 x) ∧ w'.cell? ⟨w.heap.size, 5, none⟩ = some (.int .i64 y)) := fun w' h => ⟨(V1.kept h).2.1 4 (by simp), (V1.kept h).2.1 5 (by simp)⟩
    have K := Hid.mk K
    clear V0 B hW
    go_enter Try.func29, Try.ntmps29
    go_wp2_with (first | (go_at_call 32; refine (implHasPorts_ok _ _).mono ?_; rintro e w2 ⟨rfl, rfl⟩) | go_in)
    rw [← HW.out]
    obtain ⟨s1, f1, z1⟩ := V1.open
    go_region_held3 (fun w' => w'.cell? ⟨w.heap.size, 4, none⟩ = some (.int .i64 x) ∧ w'.cell? ⟨w.heap.size, 5, none⟩ = some (.int .i64 y))
      (first | exact K.out _ ((thenB (thenB (Below.refl _ _).drew b10) b11).trans b12) | exact K.out _ (thenB (thenB (Below.refl _ _).drew b10) b11) | exact K.out _ (thenB (Below.refl _ _).drew b10) | exact K.out _ (Below.refl _ _).drew | (trace_state; fail))
      (first | (refine step_app _ (by rfl) (.tmp 9) (.tmp 12) 22 (by rfl) W.heap.size 5 i0 Try.underlying22 hi q0 q1 q2 x10 y10 2 _ (by simp [Act.eval]) (P10.kept b11) (length_putN _ _) x11 2 y11 _ (by simp [Act.eval]) P11.rd (length_putN _ _) P11.nocap (by omega) (by have := b10.size; have := b11.size; simp at *; omega) ?_; intro x12 y12 w12 P12 g12 b12) | (go_at_call 49; refine (numberBytes_ok y 2 _ (ptIn2 hy.1 hy.2)).mono ?_; have hz := b10; clear hz; rintro e w11 ⟨x11, y11, rfl, P11, b11⟩) | (go_at_call 49; refine (numberBytes_ok x 2 _ (ptIn2 hx.1 hx.2)).mono ?_; rintro e w10 ⟨x10, y10, rfl, P10, b10⟩))
    have O12 := Hid.mk P12
    have B2 := thenB B1 ((thenB (thenB (Below.refl _ _).drew b10) b11).trans b12)
    clear P12 g12 b12 b11 b10 P10 P11
    go_wp2
    go_ret
    exact ⟨_, _, rfl, O12.out.mono (by omega), B2⟩
  · rw [portP_no hp]
    clear V0
    go_enter Try.func29, Try.ntmps29
    go_wp2_with (first | (go_at_call 32; refine (implHasPorts_ok _ _).mono ?_; rintro e w2 ⟨rfl, rfl⟩) | go_in)
    go_ret
    exact ⟨none, 0, rfl, own_none, B⟩

end Go.Proofs.Ythjaehcfakjemaa
