/- The laws' own helpers over 'Rule', by contract (written by gentype.py). -/
import Derived.Test.YtngkahchhioncaaDoorRuleA
import Derived.Test.YtngkahchhioncaaDoorSelH
import Derived.Deep.RegionHeld3
namespace Go.Proofs.YtngkahchhioncaaDoor
open Go.RowKit

theorem grownThenRule {w w1 : World} {row : Option Nat} (h : w.grownBy w1 row) {p : Addr} (hp : row = some p.block) (v : Value) : w.grownBy (w1.setCell p v) row :=
  grownBy_trans h ⟨rfl, rfl, rfl, by simp [World.setCell], fun k _ hk => Below.heap_setCell _ _ _ _ (fun e => hk (by rw [hp, e]))⟩

set_option maxHeartbeats 2000000 in
theorem toRule_ok (x : R11) (w : World) :
    Calls Tryd.prog 78 #[.agg #[.int .i64 x.s.a, .int .i64 x.s.b, .int .i64 x.s.c, .int .i64 x.s.d, .int .i64 x.s.e, .int .i64 x.s.f, .int .i64 x.s.g, .int .i64 x.s.h, .int .i64 x.s.r, .int .i64 x.p, .int .i64 x.q]] w fun e w' => e = .returned (.agg #[.int .i64 x.s.a, .int .i64 x.s.b, .int .i64 x.s.c, .int .i64 x.s.d, .int .i64 x.s.e, .int .i64 x.s.f, .int .i64 x.s.g, .int .i64 x.s.h, .int .i64 x.s.r, .int .i64 x.p, .int .i64 x.q]) ∧ Below w.heap.size w w' := by
  go_enter Tryd.func78, Tryd.ntmps78
  have B := Below.refl w.heap.size w
  replace B := thenB B (belowA w (.cells #[.int .i64 x.s.a, .int .i64 x.s.b, .int .i64 x.s.c, .int .i64 x.s.d, .int .i64 x.s.e, .int .i64 x.s.f, .int .i64 x.s.g, .int .i64 x.s.h, .int .i64 x.s.r, .int .i64 x.p, .int .i64 x.q] 117))
  have VX := V.new w [.int .i64 x.s.a, .int .i64 x.s.b, .int .i64 x.s.c, .int .i64 x.s.d, .int .i64 x.s.e, .int .i64 x.s.f, .int .i64 x.s.g, .int .i64 x.s.h, .int .i64 x.s.r, .int .i64 x.p, .int .i64 x.q] 117
  replace VX := VX.kept (belowA (w.alloc (.cells #[.int .i64 x.s.a, .int .i64 x.s.b, .int .i64 x.s.c, .int .i64 x.s.d, .int .i64 x.s.e, .int .i64 x.s.f, .int .i64 x.s.g, .int .i64 x.s.h, .int .i64 x.s.r, .int .i64 x.p, .int .i64 x.q] 117)) (.cells #[.int .i64 0, .int .i64 0, .int .i64 0, .int .i64 0, .int .i64 0, .int .i64 0, .int .i64 0, .int .i64 0, .int .i64 0, .int .i64 0, .int .i64 0] 34))
  replace B := thenB B (belowA (w.alloc (.cells #[.int .i64 x.s.a, .int .i64 x.s.b, .int .i64 x.s.c, .int .i64 x.s.d, .int .i64 x.s.e, .int .i64 x.s.f, .int .i64 x.s.g, .int .i64 x.s.h, .int .i64 x.s.r, .int .i64 x.p, .int .i64 x.q] 117)) (.cells #[.int .i64 0, .int .i64 0, .int .i64 0, .int .i64 0, .int .i64 0, .int .i64 0, .int .i64 0, .int .i64 0, .int .i64 0, .int .i64 0, .int .i64 0] 34))
  have VR : V ((w.alloc (.cells #[.int .i64 x.s.a, .int .i64 x.s.b, .int .i64 x.s.c, .int .i64 x.s.d, .int .i64 x.s.e, .int .i64 x.s.f, .int .i64 x.s.g, .int .i64 x.s.h, .int .i64 x.s.r, .int .i64 x.p, .int .i64 x.q] 117)).alloc (.cells #[.int .i64 0, .int .i64 0, .int .i64 0, .int .i64 0, .int .i64 0, .int .i64 0, .int .i64 0, .int .i64 0, .int .i64 0, .int .i64 0, .int .i64 0] 34)) (w.heap.size + 1) [.int .i64 0, .int .i64 0, .int .i64 0, .int .i64 0, .int .i64 0, .int .i64 0, .int .i64 0, .int .i64 0, .int .i64 0, .int .i64 0, .int .i64 0] := V.newAt _ _ _ _ (by simp)
  replace VX := VX.kept (belowA ((w.alloc (.cells #[.int .i64 x.s.a, .int .i64 x.s.b, .int .i64 x.s.c, .int .i64 x.s.d, .int .i64 x.s.e, .int .i64 x.s.f, .int .i64 x.s.g, .int .i64 x.s.h, .int .i64 x.s.r, .int .i64 x.p, .int .i64 x.q] 117)).alloc (.cells #[.int .i64 0, .int .i64 0, .int .i64 0, .int .i64 0, .int .i64 0, .int .i64 0, .int .i64 0, .int .i64 0, .int .i64 0, .int .i64 0, .int .i64 0] 34)) (.cells #[.int .i64 0, .int .i64 0, .int .i64 0, .int .i64 0, .int .i64 0, .int .i64 0, .int .i64 0, .int .i64 0, .int .i64 0, .int .i64 0, .int .i64 0] 34))
  replace VR := VR.kept (belowA ((w.alloc (.cells #[.int .i64 x.s.a, .int .i64 x.s.b, .int .i64 x.s.c, .int .i64 x.s.d, .int .i64 x.s.e, .int .i64 x.s.f, .int .i64 x.s.g, .int .i64 x.s.h, .int .i64 x.s.r, .int .i64 x.p, .int .i64 x.q] 117)).alloc (.cells #[.int .i64 0, .int .i64 0, .int .i64 0, .int .i64 0, .int .i64 0, .int .i64 0, .int .i64 0, .int .i64 0, .int .i64 0, .int .i64 0, .int .i64 0] 34)) (.cells #[.int .i64 0, .int .i64 0, .int .i64 0, .int .i64 0, .int .i64 0, .int .i64 0, .int .i64 0, .int .i64 0, .int .i64 0, .int .i64 0, .int .i64 0] 34))
  replace B := thenB B (belowA ((w.alloc (.cells #[.int .i64 x.s.a, .int .i64 x.s.b, .int .i64 x.s.c, .int .i64 x.s.d, .int .i64 x.s.e, .int .i64 x.s.f, .int .i64 x.s.g, .int .i64 x.s.h, .int .i64 x.s.r, .int .i64 x.p, .int .i64 x.q] 117)).alloc (.cells #[.int .i64 0, .int .i64 0, .int .i64 0, .int .i64 0, .int .i64 0, .int .i64 0, .int .i64 0, .int .i64 0, .int .i64 0, .int .i64 0, .int .i64 0] 34)) (.cells #[.int .i64 0, .int .i64 0, .int .i64 0, .int .i64 0, .int .i64 0, .int .i64 0, .int .i64 0, .int .i64 0, .int .i64 0, .int .i64 0, .int .i64 0] 34))
  have VO : V (((w.alloc (.cells #[.int .i64 x.s.a, .int .i64 x.s.b, .int .i64 x.s.c, .int .i64 x.s.d, .int .i64 x.s.e, .int .i64 x.s.f, .int .i64 x.s.g, .int .i64 x.s.h, .int .i64 x.s.r, .int .i64 x.p, .int .i64 x.q] 117)).alloc (.cells #[.int .i64 0, .int .i64 0, .int .i64 0, .int .i64 0, .int .i64 0, .int .i64 0, .int .i64 0, .int .i64 0, .int .i64 0, .int .i64 0, .int .i64 0] 34)).alloc (.cells #[.int .i64 0, .int .i64 0, .int .i64 0, .int .i64 0, .int .i64 0, .int .i64 0, .int .i64 0, .int .i64 0, .int .i64 0, .int .i64 0, .int .i64 0] 34)) (w.heap.size + 1 + 1) [.int .i64 0, .int .i64 0, .int .i64 0, .int .i64 0, .int .i64 0, .int .i64 0, .int .i64 0, .int .i64 0, .int .i64 0, .int .i64 0, .int .i64 0] := V.newAt _ _ _ _ (by simp)
  obtain ⟨s_VX, f_VX, z_VX⟩ := VX.open
  obtain ⟨s_VR, f_VR, z_VR⟩ := VR.open
  obtain ⟨s_VO, f_VO, z_VO⟩ := VO.open
  go_wp2_with fail
  refine (toSel_ok x.s _).mono ?_
  rintro e w1 ⟨rfl, b1⟩
  clear s_VX f_VX z_VX s_VR f_VR z_VR s_VO f_VO z_VO
  have S1 := b1.size
  simp only [World.size_alloc] at S1
  replace VX := VX.kept b1
  replace VR := VR.kept b1
  replace VO := VO.kept b1
  replace B := thenB B b1
  clear b1
  obtain ⟨s_VX, f_VX, z_VX⟩ := VX.open
  obtain ⟨s_VR, f_VR, z_VR⟩ := VR.open
  obtain ⟨s_VO, f_VO, z_VO⟩ := VO.open
  have Bo := B
  go_wp2
  refine bodyPost_ret (v := .agg #[.int .i64 x.s.a, .int .i64 x.s.b, .int .i64 x.s.c, .int .i64 x.s.d, .int .i64 x.s.e, .int .i64 x.s.f, .int .i64 x.s.g, .int .i64 x.s.h, .int .i64 x.s.r, .int .i64 x.p, .int .i64 x.q]) (by simp [results, Tryd.results78, go_sem, f_VR]) rfl ⟨rfl, ?_⟩
  repeat' first | with_reducible exact Bo | with_reducible refine Below.setCell ?_ ?_ _ | with_reducible refine Below.alloc ?_ ?_ _ | (simp; try omega)

set_option maxHeartbeats 2000000 in
theorem eqRule_ok (x : R11) (w : World) :
    Calls Tryd.prog 79 #[.agg #[.int .i64 x.s.a, .int .i64 x.s.b, .int .i64 x.s.c, .int .i64 x.s.d, .int .i64 x.s.e, .int .i64 x.s.f, .int .i64 x.s.g, .int .i64 x.s.h, .int .i64 x.s.r, .int .i64 x.p, .int .i64 x.q], .agg #[.int .i64 x.s.a, .int .i64 x.s.b, .int .i64 x.s.c, .int .i64 x.s.d, .int .i64 x.s.e, .int .i64 x.s.f, .int .i64 x.s.g, .int .i64 x.s.h, .int .i64 x.s.r, .int .i64 x.p, .int .i64 x.q]] w fun e w' => e = .returned (.bool true) ∧ Below w.heap.size w w' := by
  go_enter Tryd.func79, Tryd.ntmps79
  have B := Below.refl w.heap.size w
  replace B := thenB B (belowA w (.cells #[.int .i64 x.s.a, .int .i64 x.s.b, .int .i64 x.s.c, .int .i64 x.s.d, .int .i64 x.s.e, .int .i64 x.s.f, .int .i64 x.s.g, .int .i64 x.s.h, .int .i64 x.s.r, .int .i64 x.p, .int .i64 x.q] 34))
  have VX := V.new w [.int .i64 x.s.a, .int .i64 x.s.b, .int .i64 x.s.c, .int .i64 x.s.d, .int .i64 x.s.e, .int .i64 x.s.f, .int .i64 x.s.g, .int .i64 x.s.h, .int .i64 x.s.r, .int .i64 x.p, .int .i64 x.q] 34
  replace VX := VX.kept (belowA (w.alloc (.cells #[.int .i64 x.s.a, .int .i64 x.s.b, .int .i64 x.s.c, .int .i64 x.s.d, .int .i64 x.s.e, .int .i64 x.s.f, .int .i64 x.s.g, .int .i64 x.s.h, .int .i64 x.s.r, .int .i64 x.p, .int .i64 x.q] 34)) (.cells #[.int .i64 x.s.a, .int .i64 x.s.b, .int .i64 x.s.c, .int .i64 x.s.d, .int .i64 x.s.e, .int .i64 x.s.f, .int .i64 x.s.g, .int .i64 x.s.h, .int .i64 x.s.r, .int .i64 x.p, .int .i64 x.q] 34))
  replace B := thenB B (belowA (w.alloc (.cells #[.int .i64 x.s.a, .int .i64 x.s.b, .int .i64 x.s.c, .int .i64 x.s.d, .int .i64 x.s.e, .int .i64 x.s.f, .int .i64 x.s.g, .int .i64 x.s.h, .int .i64 x.s.r, .int .i64 x.p, .int .i64 x.q] 34)) (.cells #[.int .i64 x.s.a, .int .i64 x.s.b, .int .i64 x.s.c, .int .i64 x.s.d, .int .i64 x.s.e, .int .i64 x.s.f, .int .i64 x.s.g, .int .i64 x.s.h, .int .i64 x.s.r, .int .i64 x.p, .int .i64 x.q] 34))
  have VY : V ((w.alloc (.cells #[.int .i64 x.s.a, .int .i64 x.s.b, .int .i64 x.s.c, .int .i64 x.s.d, .int .i64 x.s.e, .int .i64 x.s.f, .int .i64 x.s.g, .int .i64 x.s.h, .int .i64 x.s.r, .int .i64 x.p, .int .i64 x.q] 34)).alloc (.cells #[.int .i64 x.s.a, .int .i64 x.s.b, .int .i64 x.s.c, .int .i64 x.s.d, .int .i64 x.s.e, .int .i64 x.s.f, .int .i64 x.s.g, .int .i64 x.s.h, .int .i64 x.s.r, .int .i64 x.p, .int .i64 x.q] 34)) (w.heap.size + 1) [.int .i64 x.s.a, .int .i64 x.s.b, .int .i64 x.s.c, .int .i64 x.s.d, .int .i64 x.s.e, .int .i64 x.s.f, .int .i64 x.s.g, .int .i64 x.s.h, .int .i64 x.s.r, .int .i64 x.p, .int .i64 x.q] := V.newAt _ _ _ _ (by simp)
  obtain ⟨s_VX, f_VX, z_VX⟩ := VX.open
  obtain ⟨s_VY, f_VY, z_VY⟩ := VY.open
  go_wp2_with fail
  refine (eqSel_ok x.s _).mono ?_
  rintro e w1 ⟨rfl, b1⟩
  clear s_VX f_VX z_VX s_VY f_VY z_VY
  have S1 := b1.size
  simp only [World.size_alloc] at S1
  replace VX := VX.kept b1
  replace VY := VY.kept b1
  replace B := thenB B b1
  clear b1
  obtain ⟨s_VX, f_VX, z_VX⟩ := VX.open
  obtain ⟨s_VY, f_VY, z_VY⟩ := VY.open
  have Bo := B
  go_wp2
  go_ret
  exact ⟨rfl, Bo⟩

set_option maxHeartbeats 400000 in
theorem szRuleS_in (a : Option Addr) (n ca : Nat) (left : Int) (w : World) (h : (n : Int) ≤ left) (hl : left ≤ 1048576) :
    Calls Tryd.prog 27 #[.slice a n ca, .int .i64 left] w fun e w' => e = .returned (.int .i64 (left - (n : Int))) ∧ w' = w := by
  have h0 : 0 ≤ left - (n : Int) := by omega
  go_enter Tryd.func27, Tryd.ntmps27
  go_wp2
  go_ret
  exact ⟨rfl, rfl⟩

set_option maxHeartbeats 400000 in
theorem szRuleS_out (a : Option Addr) (n ca : Nat) (left : Int) (w : World) (h : left < (n : Int)) (h0 : 0 ≤ left) (hl : left ≤ 1048576) (hx : n ≤ maxLen) :
    Calls Tryd.prog 27 #[.slice a n ca, .int .i64 left] w fun e w' => e = .returned (.int .i64 (-1)) ∧ w' = w := by
  unfold maxLen at hx
  have h1 : left - (n : Int) < 0 := by omega
  go_enter Tryd.func27, Tryd.ntmps27
  go_wp2
  go_ret
  exact ⟨rfl, rfl⟩

set_option maxHeartbeats 1000000 in
theorem eqRuleS_ok (a b : Option Addr) (n ca cb : Nat) (xs : List R11) (w : World) (ha : RdRule w a xs) (hb : RdRule w b xs) (hn : xs.length = n) (hx : n ≤ maxLen) :
    Calls Tryd.prog 30 #[.slice a n ca, .slice b n cb] w fun e w' => e = .returned (.bool true) ∧ Below w.heap.size w w' := by
  unfold maxLen at hx
  go_enter Tryd.func30, Tryd.ntmps30
  go_wp2
  go_loopw [5] (fun i wr => ∃ k : Nat, k ≤ n ∧ i = .int .i64 k ∧ Below w.heap.size w wr) (fun i _ => n - (intOf i).toNat)
  case atStart => exact ⟨0, Nat.zero_le _, rfl, Below.refl _ _⟩
  case round =>
    obtain ⟨k, hk, rfl, hbel⟩ := hrel
    by_cases hlt : k < n
    · replace ha := ha.kept hbel
      replace hb := hb.kept hbel
      rcases ha with ha | ⟨b1, o1, rfl, hca⟩
      · simp [ha] at hn; omega
      rcases hb with hb | ⟨b2, o2, rfl, hcb⟩
      · simp [hb] at hn; omega
      obtain ⟨x, hx1⟩ : ∃ x, xs.getD k zRule = x := ⟨_, rfl⟩
      have HA := RdRule.cells hca k (by omega) x hx1
      have HB := RdRule.cells hcb k (by omega) x hx1
      have hk1 : (k : Int) < (n : Int) := by omega
      clear hca hcb
      obtain ⟨p0, p1, p2, p3, p4, p5, p6, p7, p8, p9, p10⟩ := HA
      obtain ⟨q0, q1, q2, q3, q4, q5, q6, q7, q8, q9, q10⟩ := HB
      clear hx1
      replace hbel := Hid.mk hbel
      have K : ∀ w' : World, Below wr.heap.size wr w' → (w'.cell? ⟨b1, o1 + k * 11, none⟩ = some (.int .i64 x.s.a) ∧ w'.cell? ⟨b1, o1 + k * 11 + 1, none⟩ = some (.int .i64 x.s.b) ∧ w'.cell? ⟨b1, o1 + k * 11 + 2, none⟩ = some (.int .i64 x.s.c) ∧ w'.cell? ⟨b1, o1 + k * 11 + 3, none⟩ = some (.int .i64 x.s.d) ∧ w'.cell? ⟨b1, o1 + k * 11 + 4, none⟩ = some (.int .i64 x.s.e) ∧ w'.cell? ⟨b1, o1 + k * 11 + 5, none⟩ = some (.int .i64 x.s.f) ∧ w'.cell? ⟨b1, o1 + k * 11 + 6, none⟩ = some (.int .i64 x.s.g) ∧ w'.cell? ⟨b1, o1 + k * 11 + 7, none⟩ = some (.int .i64 x.s.h) ∧ w'.cell? ⟨b1, o1 + k * 11 + 8, none⟩ = some (.int .i64 x.s.r) ∧ w'.cell? ⟨b1, o1 + k * 11 + 9, none⟩ = some (.int .i64 x.p) ∧ w'.cell? ⟨b1, o1 + k * 11 + 10, none⟩ = some (.int .i64 x.q) ∧ w'.cell? ⟨b2, o2 + k * 11, none⟩ = some (.int .i64 x.s.a) ∧ w'.cell? ⟨b2, o2 + k * 11 + 1, none⟩ = some (.int .i64 x.s.b) ∧ w'.cell? ⟨b2, o2 + k * 11 + 2, none⟩ = some (.int .i64 x.s.c) ∧ w'.cell? ⟨b2, o2 + k * 11 + 3, none⟩ = some (.int .i64 x.s.d) ∧ w'.cell? ⟨b2, o2 + k * 11 + 4, none⟩ = some (.int .i64 x.s.e) ∧ w'.cell? ⟨b2, o2 + k * 11 + 5, none⟩ = some (.int .i64 x.s.f) ∧ w'.cell? ⟨b2, o2 + k * 11 + 6, none⟩ = some (.int .i64 x.s.g) ∧ w'.cell? ⟨b2, o2 + k * 11 + 7, none⟩ = some (.int .i64 x.s.h) ∧ w'.cell? ⟨b2, o2 + k * 11 + 8, none⟩ = some (.int .i64 x.s.r) ∧ w'.cell? ⟨b2, o2 + k * 11 + 9, none⟩ = some (.int .i64 x.p) ∧ w'.cell? ⟨b2, o2 + k * 11 + 10, none⟩ = some (.int .i64 x.q)) := fun w' h => ⟨(h.cell (p := ⟨b1, o1 + k * 11, none⟩) (World.block_lt_of_cell? (a := ⟨b1, o1 + k * 11, none⟩) wr p0)).trans p0, (h.cell (p := ⟨b1, o1 + k * 11 + 1, none⟩) (World.block_lt_of_cell? (a := ⟨b1, o1 + k * 11 + 1, none⟩) wr p1)).trans p1, (h.cell (p := ⟨b1, o1 + k * 11 + 2, none⟩) (World.block_lt_of_cell? (a := ⟨b1, o1 + k * 11 + 2, none⟩) wr p2)).trans p2, (h.cell (p := ⟨b1, o1 + k * 11 + 3, none⟩) (World.block_lt_of_cell? (a := ⟨b1, o1 + k * 11 + 3, none⟩) wr p3)).trans p3, (h.cell (p := ⟨b1, o1 + k * 11 + 4, none⟩) (World.block_lt_of_cell? (a := ⟨b1, o1 + k * 11 + 4, none⟩) wr p4)).trans p4, (h.cell (p := ⟨b1, o1 + k * 11 + 5, none⟩) (World.block_lt_of_cell? (a := ⟨b1, o1 + k * 11 + 5, none⟩) wr p5)).trans p5, (h.cell (p := ⟨b1, o1 + k * 11 + 6, none⟩) (World.block_lt_of_cell? (a := ⟨b1, o1 + k * 11 + 6, none⟩) wr p6)).trans p6, (h.cell (p := ⟨b1, o1 + k * 11 + 7, none⟩) (World.block_lt_of_cell? (a := ⟨b1, o1 + k * 11 + 7, none⟩) wr p7)).trans p7, (h.cell (p := ⟨b1, o1 + k * 11 + 8, none⟩) (World.block_lt_of_cell? (a := ⟨b1, o1 + k * 11 + 8, none⟩) wr p8)).trans p8, (h.cell (p := ⟨b1, o1 + k * 11 + 9, none⟩) (World.block_lt_of_cell? (a := ⟨b1, o1 + k * 11 + 9, none⟩) wr p9)).trans p9, (h.cell (p := ⟨b1, o1 + k * 11 + 10, none⟩) (World.block_lt_of_cell? (a := ⟨b1, o1 + k * 11 + 10, none⟩) wr p10)).trans p10, (h.cell (p := ⟨b2, o2 + k * 11, none⟩) (World.block_lt_of_cell? (a := ⟨b2, o2 + k * 11, none⟩) wr q0)).trans q0, (h.cell (p := ⟨b2, o2 + k * 11 + 1, none⟩) (World.block_lt_of_cell? (a := ⟨b2, o2 + k * 11 + 1, none⟩) wr q1)).trans q1, (h.cell (p := ⟨b2, o2 + k * 11 + 2, none⟩) (World.block_lt_of_cell? (a := ⟨b2, o2 + k * 11 + 2, none⟩) wr q2)).trans q2, (h.cell (p := ⟨b2, o2 + k * 11 + 3, none⟩) (World.block_lt_of_cell? (a := ⟨b2, o2 + k * 11 + 3, none⟩) wr q3)).trans q3, (h.cell (p := ⟨b2, o2 + k * 11 + 4, none⟩) (World.block_lt_of_cell? (a := ⟨b2, o2 + k * 11 + 4, none⟩) wr q4)).trans q4, (h.cell (p := ⟨b2, o2 + k * 11 + 5, none⟩) (World.block_lt_of_cell? (a := ⟨b2, o2 + k * 11 + 5, none⟩) wr q5)).trans q5, (h.cell (p := ⟨b2, o2 + k * 11 + 6, none⟩) (World.block_lt_of_cell? (a := ⟨b2, o2 + k * 11 + 6, none⟩) wr q6)).trans q6, (h.cell (p := ⟨b2, o2 + k * 11 + 7, none⟩) (World.block_lt_of_cell? (a := ⟨b2, o2 + k * 11 + 7, none⟩) wr q7)).trans q7, (h.cell (p := ⟨b2, o2 + k * 11 + 8, none⟩) (World.block_lt_of_cell? (a := ⟨b2, o2 + k * 11 + 8, none⟩) wr q8)).trans q8, (h.cell (p := ⟨b2, o2 + k * 11 + 9, none⟩) (World.block_lt_of_cell? (a := ⟨b2, o2 + k * 11 + 9, none⟩) wr q9)).trans q9, (h.cell (p := ⟨b2, o2 + k * 11 + 10, none⟩) (World.block_lt_of_cell? (a := ⟨b2, o2 + k * 11 + 10, none⟩) wr q10)).trans q10⟩
      have K := Hid.mk K
      go_wp2
      refine wp_region_held_drew (S := (fun w' => w'.cell? ⟨b1, o1 + k * 11, none⟩ = some (.int .i64 x.s.a) ∧ w'.cell? ⟨b1, o1 + k * 11 + 1, none⟩ = some (.int .i64 x.s.b) ∧ w'.cell? ⟨b1, o1 + k * 11 + 2, none⟩ = some (.int .i64 x.s.c) ∧ w'.cell? ⟨b1, o1 + k * 11 + 3, none⟩ = some (.int .i64 x.s.d) ∧ w'.cell? ⟨b1, o1 + k * 11 + 4, none⟩ = some (.int .i64 x.s.e) ∧ w'.cell? ⟨b1, o1 + k * 11 + 5, none⟩ = some (.int .i64 x.s.f) ∧ w'.cell? ⟨b1, o1 + k * 11 + 6, none⟩ = some (.int .i64 x.s.g) ∧ w'.cell? ⟨b1, o1 + k * 11 + 7, none⟩ = some (.int .i64 x.s.h) ∧ w'.cell? ⟨b1, o1 + k * 11 + 8, none⟩ = some (.int .i64 x.s.r) ∧ w'.cell? ⟨b1, o1 + k * 11 + 9, none⟩ = some (.int .i64 x.p) ∧ w'.cell? ⟨b1, o1 + k * 11 + 10, none⟩ = some (.int .i64 x.q) ∧ w'.cell? ⟨b2, o2 + k * 11, none⟩ = some (.int .i64 x.s.a) ∧ w'.cell? ⟨b2, o2 + k * 11 + 1, none⟩ = some (.int .i64 x.s.b) ∧ w'.cell? ⟨b2, o2 + k * 11 + 2, none⟩ = some (.int .i64 x.s.c) ∧ w'.cell? ⟨b2, o2 + k * 11 + 3, none⟩ = some (.int .i64 x.s.d) ∧ w'.cell? ⟨b2, o2 + k * 11 + 4, none⟩ = some (.int .i64 x.s.e) ∧ w'.cell? ⟨b2, o2 + k * 11 + 5, none⟩ = some (.int .i64 x.s.f) ∧ w'.cell? ⟨b2, o2 + k * 11 + 6, none⟩ = some (.int .i64 x.s.g) ∧ w'.cell? ⟨b2, o2 + k * 11 + 7, none⟩ = some (.int .i64 x.s.h) ∧ w'.cell? ⟨b2, o2 + k * 11 + 8, none⟩ = some (.int .i64 x.s.r) ∧ w'.cell? ⟨b2, o2 + k * 11 + 9, none⟩ = some (.int .i64 x.p) ∧ w'.cell? ⟨b2, o2 + k * 11 + 10, none⟩ = some (.int .i64 x.q))) (by kernel_rfl) (K.out _ (Below.refl _ _).drew) (fun hHeld => ?_)
      refine wpAnyH_take (i := 0) (oi := _) (v := ?veu1) rfl (by kernel_rfl) (by kernel_rfl) (by kernel_rfl) (fun _ _ _ h => h) (Or.inl ⟨by rfl, ?hyeu1⟩) hHeld ?resteu1
      case hyeu1 => (intro w hSw; (try dsimp only at hSw); go_simp; first | done | with_reducible rfl)
      try simp only [Act.put, List.getElem_toArray, List.getElem_cons_zero, List.setIfInBounds_toArray, List.set_cons_zero, List.set_cons_succ]
      refine wpAnyH_take (i := 1) (oi := _) (v := ?veu2) rfl (by kernel_rfl) (by kernel_rfl) (by kernel_rfl) (fun _ _ _ h => h) (Or.inl ⟨by rfl, ?hyeu2⟩) hHeld ?resteu2
      case hyeu2 => (intro w hSw; (try dsimp only at hSw); go_simp; first | done | with_reducible rfl)
      try simp only [Act.put, List.getElem_toArray, List.getElem_cons_zero, List.getElem_cons_succ, List.setIfInBounds_toArray, List.set_cons_zero, List.set_cons_succ]
      refine wpAnyH_take (i := 2) (oi := _) (v := ?veu3) rfl (by kernel_rfl) (by kernel_rfl) (by kernel_rfl) (fun _ _ _ h => h) (Or.inl ⟨by rfl, ?hyeu3⟩) hHeld ?resteu3
      case hyeu3 => (intro w hSw; (try dsimp only at hSw); go_simp; first | done | with_reducible rfl)
      try simp only [Act.put, List.getElem_toArray, List.getElem_cons_zero, List.getElem_cons_succ, List.setIfInBounds_toArray, List.set_cons_zero, List.set_cons_succ]
      refine wpAnyH_take (i := 3) (oi := _) (v := ?veu4) rfl (by kernel_rfl) (by kernel_rfl) (by kernel_rfl) (fun _ _ _ h => h) (Or.inl ⟨by rfl, ?hyeu4⟩) hHeld ?resteu4
      case hyeu4 => (intro w hSw; (try dsimp only at hSw); go_simp; first | done | with_reducible rfl)
      try simp only [Act.put, List.getElem_toArray, List.getElem_cons_zero, List.getElem_cons_succ, List.setIfInBounds_toArray, List.set_cons_zero, List.set_cons_succ]
      refine wpAnyH_take (i := 4) (oi := _) (v := ?veu5) rfl (by kernel_rfl) (by kernel_rfl) (by kernel_rfl) (fun _ _ _ h => h) (Or.inl ⟨by rfl, ?hyeu5⟩) hHeld ?resteu5
      case hyeu5 => (intro w hSw; (try dsimp only at hSw); go_simp; first | done | with_reducible rfl)
      try simp only [Act.put, List.getElem_toArray, List.getElem_cons_zero, List.getElem_cons_succ, List.setIfInBounds_toArray, List.set_cons_zero, List.set_cons_succ]
      refine wpAnyH_take (i := 5) (oi := _) (v := ?veu6) rfl (by kernel_rfl) (by kernel_rfl) (by kernel_rfl) (fun _ _ _ h => h) (Or.inl ⟨by rfl, ?hyeu6⟩) hHeld ?resteu6
      case hyeu6 => (intro w hSw; (try dsimp only at hSw); go_simp; first | done | with_reducible rfl)
      try simp only [Act.put, List.getElem_toArray, List.getElem_cons_zero, List.getElem_cons_succ, List.setIfInBounds_toArray, List.set_cons_zero, List.set_cons_succ]
      refine wpAnyH_take (i := 6) (oi := _) (v := ?veu7) rfl (by kernel_rfl) (by kernel_rfl) (by kernel_rfl) (fun _ _ _ h => h) (Or.inl ⟨by rfl, ?hyeu7⟩) hHeld ?resteu7
      case hyeu7 => (intro w hSw; (try dsimp only at hSw); go_simp; first | done | with_reducible rfl)
      try simp only [Act.put, List.getElem_toArray, List.getElem_cons_zero, List.getElem_cons_succ, List.setIfInBounds_toArray, List.set_cons_zero, List.set_cons_succ]
      refine wpAnyH_take (i := 7) (oi := _) (v := ?veu8) rfl (by kernel_rfl) (by kernel_rfl) (by kernel_rfl) (fun _ _ _ h => h) (Or.inl ⟨by rfl, ?hyeu8⟩) hHeld ?resteu8
      case hyeu8 => (intro w hSw; (try dsimp only at hSw); go_simp; first | done | with_reducible rfl)
      try simp only [Act.put, List.getElem_toArray, List.getElem_cons_zero, List.getElem_cons_succ, List.setIfInBounds_toArray, List.set_cons_zero, List.set_cons_succ]
      refine wpAnyH_ready (rs := [8]) (by kernel_rfl) (by simp) ?_
      refine AllReadyH.cons (o := _) rfl (fun K0 hK0 => ?_) AllReadyH.nil
      go_simp
      go_at_call 79
      refine (eqRule_ok x _).mono ?_
      rintro e wev9 ⟨rfl, bev9⟩
      refine hK0.out _ _ (K.out _ (thenB (Below.refl _ _).drew bev9)) (fun hHeld => ?_)
      clear hK0 K0
      try simp only [Act.put, List.getElem_toArray, List.getElem_cons_zero, List.getElem_cons_succ, List.setIfInBounds_toArray, List.set_cons_zero, List.set_cons_succ]
      refine wpAnyH_take (i := 9) (oi := _) (v := ?veu10) rfl (by kernel_rfl) (by kernel_rfl) (by kernel_rfl) (fun _ _ _ h => h) (Or.inl ⟨by rfl, ?hyeu10⟩) hHeld ?resteu10
      case hyeu10 => (intro w hSw; (try dsimp only at hSw); go_simp; first | done | with_reducible rfl)
      try simp only [Act.put, List.getElem_toArray, List.getElem_cons_zero, List.getElem_cons_succ, List.setIfInBounds_toArray, List.set_cons_zero, List.set_cons_succ]
      refine wpAnyH_done (by kernel_rfl) ?_ _
      have BX := thenB hbel.out (thenB (Below.refl _ _).drew bev9)
      go_wp2
      go_roundw
      case rel => exact ⟨k + 1, by omega, by go_num, BX⟩
      case measure => simp [intOf]; omega
    · have hkn : k = n := by omega
      subst hkn
      go_wp2
      go_ret
      exact ⟨rfl, hbel⟩

set_option maxHeartbeats 1000000 in
theorem toRuleS_ok (a : Option Addr) (n ca : Nat) (xs : List R11) (w : World) (ha : RdRule w a xs) (hn : xs.length = n) (hx : n ≤ 1048576) :
    Calls Tryd.prog 29 #[.slice a n ca] w fun e w' => e = .returned (.slice (some ⟨w.heap.size, 0, none⟩) n n) ∧ OwnRule w' w.heap.size (some ⟨w.heap.size, 0, none⟩) n xs ∧ Below w.heap.size w w' := by
  obtain ⟨i0, hi, hz0, hz1, hz2⟩ := info_parts Tryd.infoRule
  go_enter Tryd.func29, Tryd.ntmps29
  go_wp2_with (at_make; refine wpList_make_full _ rfl _ _ 24 rfl w.heap.size 34 i0 (.agg #[.int .i64 0, .int .i64 0, .int .i64 0, .int .i64 0, .int .i64 0, .int .i64 0, .int .i64 0, .int .i64 0, .int .i64 0, .int .i64 0, .int .i64 0]) 11 Tryd.underlying24 hi hz0 hz1 .i64 .i64 _ _ n rfl rfl rfl rfl (by rw [hz2]; omega) (by unfold maxLen; omega) (Nat.le_refl _) ?_)
  intro w1 hown hgrow
  have hown0 : w1.ownsRow w.heap.size 34 11 (.slice (some ⟨w.heap.size, 0, none⟩) n n) n (flatRule (fillRule xs 0 n)) := by
    rw [fillRule_zero, zerosRule, ← madeRule]
    exact hown
  have hbel : Below w.heap.size w w1 := (Below.refl _ _).grown hgrow (Nat.le_refl _) (by intro k hk; cases hk)
  clear hown hgrow
  go_wp2
  go_loopw [4] (fun i wr => ∃ k : Nat, k ≤ n ∧ i = .int .i64 k ∧ wr.ownsRow w.heap.size 34 11 (.slice (some ⟨w.heap.size, 0, none⟩) n n) n (flatRule (fillRule xs k n)) ∧ Below w.heap.size w wr) (fun i _ => n - (intOf i).toNat)
  case atStart => exact ⟨0, Nat.zero_le _, rfl, hown0, hbel⟩
  case round =>
    obtain ⟨k, hk, rfl, hown, hb⟩ := hrel
    by_cases hlt : k < n
    · replace ha := ha.kept hb
      rcases ha with ha | ⟨b1, o1, rfl, hca⟩
      · simp [ha] at hn; omega
      obtain ⟨x, hx1⟩ : ∃ x, xs.getD k zRule = x := ⟨_, rfl⟩
      obtain ⟨p0, p1, p2, p3, p4, p5, p6, p7, p8, p9, p10⟩ := RdRule.cells hca k (by omega) x hx1
      have hk1 : (k : Int) < (n : Int) := by omega
      have hfl : (fillRule xs k n).length = n := fillRule_len xs k n hn hk
      have hf0 := fillRule_at xs k n hn hlt
      have hfs := fillRule_set xs k n hn hlt
      rw [hx1] at hfs
      have HB := Hid.mk hb
      have HO := Hid.mk hown
      have HS : Hid (setRule (flatRule (fillRule xs k n)) (k * 11) x = flatRule (fillRule xs (k + 1) n)) := Hid.mk (by rw [← hfs]; exact setRule_flat _ _ _ (by omega))
      clear hca hown hb hx1 hfs
      go_wp2_with fail
      refine (toRule_ok x _).mono ?_
      rintro e w2 ⟨rfl, b2⟩
      have hown2 : w2.ownsRow w.heap.size 34 11 (.slice (some ⟨w.heap.size, 0, none⟩) n n) n (flatRule (fillRule xs k n)) := World.ownsRow.kept HO.out (Below.grownBy b2 none) (.inr (by simp [Value.ownBlock]))
      have B2 := Hid.mk (HB.out.trans (b2.mono HB.out.size))
      have zF := fun o => hown2.frozenAt o
      have cF : ∀ j, j < 11 → w2.cell? ⟨w.heap.size, k * 11 + j, none⟩ = some (.int .i64 0) := fun j hj => by
        rw [hown2.cellAt (k * 11 + j) (by omega), flatRule_at _ k j (by omega) hj, hf0]
        match j, hj with
        | 0, _ => rfl
        | 1, _ => rfl
        | 2, _ => rfl
        | 3, _ => rfl
        | 4, _ => rfl
        | 5, _ => rfl
        | 6, _ => rfl
        | 7, _ => rfl
        | 8, _ => rfl
        | 9, _ => rfl
        | 10, _ => rfl
      have c0 := cF 0 (by decide)
      have c1 := cF 1 (by decide)
      have c2 := cF 2 (by decide)
      have c3 := cF 3 (by decide)
      have c4 := cF 4 (by decide)
      have c5 := cF 5 (by decide)
      have c6 := cF 6 (by decide)
      have c7 := cF 7 (by decide)
      have c8 := cF 8 (by decide)
      have c9 := cF 9 (by decide)
      have c10 := cF 10 (by decide)
      simp only [Nat.add_zero] at c0
      have HN := Hid.mk (HS.out ▸ storedRule hown2 k x)
      clear cF hown2 b2 hf0 hfl p0 p1 p2 p3 p4 p5 p6 p7 p8 p9 p10
      go_wp2
      go_roundw
      case rel => exact ⟨k + 1, by omega, by go_num, HN.out, (((((((((((B2.out.setCell (Nat.le_refl _) _).setCell (Nat.le_refl _) _).setCell (Nat.le_refl _) _).setCell (Nat.le_refl _) _).setCell (Nat.le_refl _) _).setCell (Nat.le_refl _) _).setCell (Nat.le_refl _) _).setCell (Nat.le_refl _) _).setCell (Nat.le_refl _) _).setCell (Nat.le_refl _) _).setCell (Nat.le_refl _) _)⟩
      case measure => simp [intOf]; omega
    · have hkn : k = n := by omega
      subst hkn
      rw [fillRule_all xs k hn] at hown
      have HO := Hid.mk hown
      clear hown
      go_wp2
      go_ret
      exact ⟨rfl, by unfold OwnRule; rw [hn]; exact HO.out, hb⟩

set_option maxRecDepth 20000 in
set_option maxHeartbeats 4000000 in
theorem markRuleS_ok (a : Option Addr) (n ca base : Nat) (xs : List R11) (q : Int) (w : World) (ha : OwnRule w base a ca xs) (hn : xs.length = n) (h0 : 0 ≤ q) (hx : q + 11 * (n : Int) ≤ 1099511627776) :
    Calls Tryd.prog 39 #[.slice a n ca, .int .i64 q] w fun e w' => e = .returned (.int .i64 (q + 11 * (n : Int))) ∧ OwnRule w' base a ca (marksRule q n) ∧ w.grownBy w' (a.map Addr.block) := by
  go_enter Tryd.func39, Tryd.ntmps39
  go_wp2
  go_loopw [1, 5] (fun p i wr => ∃ k : Nat, k ≤ n ∧ i = .int .i64 k ∧ p = .int .i64 (q + 11 * (k : Int)) ∧ OwnRule wr base a ca (mfillRule q k xs) ∧ w.grownBy wr (a.map Addr.block)) (fun _ i _ => n - (intOf i).toNat)
  case atStart => exact ⟨0, Nat.zero_le _, rfl, by simp, by rw [mfillRule_zero]; exact ha, World.grownBy.refl _ _⟩
  case round =>
    clear ha
    obtain ⟨k, hk, rfl, rfl, O, B⟩ := hrel
    by_cases hlt : k < n
    · obtain ⟨p, hp⟩ : ∃ p, q + 11 * (k : Int) = p := ⟨_, rfl⟩
      have hp0 : 0 ≤ p := by omega
      have hp1 : p + 11 ≤ 1099511627776 := by omega
      have hl := mfillRule_len q k xs n hn hk
      have hset := mfillRule_set q k xs (by omega)
      rw [hp] at hset ⊢
      have hO := O
      unfold OwnRule at hO
      rw [hl] at hO
      obtain ⟨g, cap, hv, hgb, hgl⟩ := World.ownsRow.form hO (by omega)
      simp only [Value.slice.injEq, true_and] at hv
      obtain ⟨rfl, rfl⟩ := hv
      obtain ⟨x, hx1⟩ : ∃ x, (mfillRule q k xs).getD k zRule = x := ⟨_, rfl⟩
      have HS : Hid (setRule (flatRule (mfillRule q k xs)) (k * 11) (mRule p) = flatRule (mfillRule q (k + 1) xs)) := Hid.mk (by rw [← hset]; exact setRule_flat _ _ _ (by omega))
      have zF := fun o => hO.frozenAt o
      have cF : ∀ j, j < 11 → wr.cell? ⟨g, k * 11 + j, none⟩ = (rowRule x)[j]? := fun j hj => by
        rw [hO.cellAt (k * 11 + j) (by omega), flatRule_at _ k j (by omega) hj, hx1]
      have hk1 : (k : Int) < (n : Int) := by omega
      have c0 : wr.cell? ⟨g, k * 11, none⟩ = some (.int .i64 x.s.a) := cF 0 (by decide)
      have c1 : wr.cell? ⟨g, k * 11 + 1, none⟩ = some (.int .i64 x.s.b) := cF 1 (by decide)
      have c2 : wr.cell? ⟨g, k * 11 + 2, none⟩ = some (.int .i64 x.s.c) := cF 2 (by decide)
      have c3 : wr.cell? ⟨g, k * 11 + 3, none⟩ = some (.int .i64 x.s.d) := cF 3 (by decide)
      have c4 : wr.cell? ⟨g, k * 11 + 4, none⟩ = some (.int .i64 x.s.e) := cF 4 (by decide)
      have c5 : wr.cell? ⟨g, k * 11 + 5, none⟩ = some (.int .i64 x.s.f) := cF 5 (by decide)
      have c6 : wr.cell? ⟨g, k * 11 + 6, none⟩ = some (.int .i64 x.s.g) := cF 6 (by decide)
      have c7 : wr.cell? ⟨g, k * 11 + 7, none⟩ = some (.int .i64 x.s.h) := cF 7 (by decide)
      have c8 : wr.cell? ⟨g, k * 11 + 8, none⟩ = some (.int .i64 x.s.r) := cF 8 (by decide)
      have c9 : wr.cell? ⟨g, k * 11 + 9, none⟩ = some (.int .i64 x.p) := cF 9 (by decide)
      have c10 : wr.cell? ⟨g, k * 11 + 10, none⟩ = some (.int .i64 x.q) := cF 10 (by decide)
      have HN := storedRule hO k (mRule p)
      rw [HS.out] at HN
      dsimp only [mRule] at HN
      have hl1 := mfillRule_len q (k + 1) xs n hn (by omega)
      replace HN := Hid.mk HN
      replace hl1 := Hid.mk hl1
      replace B := Hid.mk B
      have HP := Hid.mk hp
      clear cF O hO hset hl hx1 HS hp
      go_wp2
      go_roundw
      case rel =>
        refine ⟨k + 1, by omega, by go_num, ?_, ?_, ?_⟩
        · have h := HP.out
          go_num
        · unfold OwnRule
          rw [hl1.out]
          exact HN.out
        · replace B := B.out
          clear HN hl1 HP c0 c1 c2 c3 c4 c5 c6 c7 c8 c9 c10 zF
          simp only [Option.map_some] at B ⊢
          iterate 11 (with_reducible refine grownThenRule ?_ rfl _)
          exact B
      case measure => simp [intOf]; omega
    · have hkn : k = n := by omega
      subst hkn
      rw [mfillRule_all q xs k hn] at O
      go_wp2
      go_ret
      exact ⟨rfl, O, B⟩

set_option maxRecDepth 20000 in
set_option maxHeartbeats 4000000 in
theorem heldRuleS_ok (a : Option Addr) (n ca : Nat) (q : Int) (w : World) (ha : RdRule w a (marksRule q n)) (h0 : 0 ≤ q) (hx : q + 11 * (n : Int) ≤ 1099511627776) :
    Calls Tryd.prog 86 #[.slice a n ca, .int .i64 q] w fun e w' => e = .returned (.int .i64 (q + 11 * (n : Int))) ∧ Below w.heap.size w w' := by
  go_enter Tryd.func86, Tryd.ntmps86
  go_wp2
  go_loopw [1, 5] (fun p i wr => ∃ k : Nat, k ≤ n ∧ i = .int .i64 k ∧ p = .int .i64 (q + 11 * (k : Int)) ∧ Below w.heap.size w wr) (fun _ i _ => n - (intOf i).toNat)
  case atStart => exact ⟨0, Nat.zero_le _, rfl, by simp, Below.refl _ _⟩
  case round =>
    obtain ⟨k, hk, rfl, rfl, B⟩ := hrel
    by_cases hlt : k < n
    · obtain ⟨p, hp⟩ : ∃ p, q + 11 * (k : Int) = p := ⟨_, rfl⟩
      have hp0 : 0 ≤ p := by omega
      have hp1 : p + 11 ≤ 1099511627776 := by omega
      have hm := marksRule_at q n k hlt
      rw [hp] at hm ⊢
      replace ha := ha.kept B
      rcases ha with ha | ⟨b1, o1, rfl, hca⟩
      · have := marksRule_len q n; simp [ha] at this; omega
      obtain ⟨p0, p1, p2, p3, p4, p5, p6, p7, p8, p9, p10⟩ := RdRule.cells hca k (by rw [marksRule_len]; omega) (mRule p) hm
      dsimp only [mRule] at p0 p1 p2 p3 p4 p5 p6 p7 p8 p9 p10
      have hk1 : (k : Int) < (n : Int) := by omega
      have HP := Hid.mk hp
      clear hca hm hp
      go_wp2
      go_roundw
      case rel =>
        refine ⟨k + 1, by omega, by go_num, ?_, B⟩
        have h := HP.out
        go_num
      case measure => simp [intOf]; omega
    · have hkn : k = n := by omega
      subst hkn
      go_wp2
      go_ret
      exact ⟨rfl, B⟩

end Go.Proofs.YtngkahchhioncaaDoor
