/- Rules change places: the model. -/
import Derived.Test.YtngkahchhioncaaDoorPolF
import Derived.Test.YtngkahchhioncaaDoorMtF
import Derived.Test.YtngkahchhioncaaDoorFill
import Derived.Deep.DeepCutAuto
namespace Go.Proofs.YtngkahchhioncaaDoor
open Go.RowKit

theorem build_rs0 (k : Int) (w : World) : (Instr.build 45 #[(0, .int .i64 k)]).run Tryd.prog w = .ok (.agg #[.int .i64 k, .slice none 0 0]) w := run_build w 45 _ _ (by kernel_rfl)

theorem build_rs1 (a : Option Addr) (n c : Nat) (w : World) : (Instr.build 45 #[(1, .slice a n c)]).run Tryd.prog w = .ok (.agg #[.int .i64 0, .slice a n c]) w := run_build w 45 _ _ (by kernel_rfl)

theorem build_rsZ (w : World) : (Instr.build 45 #[]).run Tryd.prog w = .ok (.agg #[.int .i64 0, .slice none 0 0]) w := run_build w 45 _ _ (by kernel_rfl)

theorem fieldMeet (k : Value) (x : S9) (w : World) : (Instr.field 108 (.agg #[k, .int .i64 x.a, .int .i64 x.b, .int .i64 x.c, .int .i64 x.d, .int .i64 x.e, .int .i64 x.f, .int .i64 x.g, .int .i64 x.h, .int .i64 x.r]) 0).run Tryd.prog w = .ok k w := by kernel_rfl

/-- Two rules that follow on one another. -/
def swA (xs : List R11) (t : Int) : R11 := xs.getD t.toNat zRule
def swB (xs : List R11) (t : Int) : R11 := xs.getD (t.toNat + 1) zRule

/-- What 'SwapRules' answers. -/
@[irreducible] def swC (xs : List R11) (t : Int) : Int := if pyC xs = 0 then (if btw t 0 ((xs.length : Int) - 2) = true then (if mtC (swA xs t).s (swB xs t).s = 0 ∧ ((swA xs t).p ≠ (swB xs t).p ∨ (swA xs t).q ≠ (swB xs t).q) then 1 else 0) else 3) else pyC xs
@[irreducible] def swL (xs : List R11) (t : Int) : List R11 := if swC xs t = 0 then (xs.set t.toNat (swB xs t)).set (t.toNat + 1) (swA xs t) else []

theorem sw_ways (xs : List R11) (t : Int) :
    ((pyC xs != 0) = true ∧ pyC xs ≠ 0 ∧ swC xs t = pyC xs ∧ swL xs t = []) ∨
    (pyC xs = 0 ∧ btw t 0 ((xs.length : Int) - 2) = false ∧ swC xs t = 3 ∧ swL xs t = []) ∨
    ∃ k : Nat, t = (k : Int) ∧ k + 1 < xs.length ∧ pyC xs = 0 ∧ btw t 0 ((xs.length : Int) - 2) = true ∧
      ((mtC (xs.getD k zRule).s (xs.getD (k + 1) zRule).s = 0 ∧ ((xs.getD k zRule).p != (xs.getD (k + 1) zRule).p) = true ∧ swC xs t = 1 ∧ swL xs t = []) ∨
       (mtC (xs.getD k zRule).s (xs.getD (k + 1) zRule).s = 0 ∧ ((xs.getD k zRule).p != (xs.getD (k + 1) zRule).p) = false ∧ ((xs.getD k zRule).q != (xs.getD (k + 1) zRule).q) = true ∧ swC xs t = 1 ∧ swL xs t = []) ∨
       (mtC (xs.getD k zRule).s (xs.getD (k + 1) zRule).s = 0 ∧ ((xs.getD k zRule).p != (xs.getD (k + 1) zRule).p) = false ∧ ((xs.getD k zRule).q != (xs.getD (k + 1) zRule).q) = false ∧ swC xs t = 0 ∧ swL xs t = (xs.set k (xs.getD (k + 1) zRule)).set (k + 1) (xs.getD k zRule)) ∨
       ((mtC (xs.getD k zRule).s (xs.getD (k + 1) zRule).s == 0) = false ∧ swC xs t = 0 ∧ swL xs t = (xs.set k (xs.getD (k + 1) zRule)).set (k + 1) (xs.getD k zRule))) := by
  by_cases h1 : pyC xs = 0
  · cases h2 : btw t 0 ((xs.length : Int) - 2)
    · refine .inr (.inl ⟨h1, rfl, ?_, ?_⟩)
      · unfold swC; rw [if_pos h1, if_neg (by rw [h2]; simp)]
      · have e : swC xs t = 3 := by unfold swC; rw [if_pos h1, if_neg (by rw [h2]; simp)]
        unfold swL; rw [e]; rfl
    · have h3 := btw_iff.1 h2
      obtain ⟨k, rfl⟩ := Int.eq_ofNat_of_zero_le h3.1
      have hk : k + 1 < xs.length := by omega
      have e0 : swC xs (k : Int) = if mtC (xs.getD k zRule).s (xs.getD (k + 1) zRule).s = 0 ∧ ((xs.getD k zRule).p ≠ (xs.getD (k + 1) zRule).p ∨ (xs.getD k zRule).q ≠ (xs.getD (k + 1) zRule).q) then 1 else 0 := by
        unfold swC; rw [if_pos h1, if_pos h2]; rfl
      have e1 : swL xs (k : Int) = if swC xs (k : Int) = 0 then (xs.set k (xs.getD (k + 1) zRule)).set (k + 1) (xs.getD k zRule) else [] := by
        unfold swL; rfl
      refine .inr (.inr ⟨k, rfl, hk, h1, rfl, ?_⟩)
      by_cases h4 : mtC (xs.getD k zRule).s (xs.getD (k + 1) zRule).s = 0
      · by_cases h5 : (xs.getD k zRule).p = (xs.getD (k + 1) zRule).p
        · by_cases h6 : (xs.getD k zRule).q = (xs.getD (k + 1) zRule).q
          · have e : swC xs (k : Int) = 0 := by rw [e0, if_neg (by rintro ⟨_, h | h⟩; exact h h5; exact h h6)]
            exact .inr (.inr (.inl ⟨h4, by simp only [bne_eq_false_iff_eq]; exact h5, by simp only [bne_eq_false_iff_eq]; exact h6, e, by rw [e1, e]; rfl⟩))
          · have e : swC xs (k : Int) = 1 := by rw [e0, if_pos ⟨h4, .inr h6⟩]
            exact .inr (.inl ⟨h4, by simp only [bne_eq_false_iff_eq]; exact h5, bne_iff_ne.2 h6, e, by rw [e1, e]; rfl⟩)
        · have e : swC xs (k : Int) = 1 := by rw [e0, if_pos ⟨h4, .inl h5⟩]
          exact .inl ⟨h4, bne_iff_ne.2 h5, e, by rw [e1, e]; rfl⟩
      · have e : swC xs (k : Int) = 0 := by rw [e0, if_neg (fun h => h4 h.1)]
        exact .inr (.inr (.inr ⟨by simp only [beq_eq_false_iff_ne]; exact h4, e, by rw [e1, e]; rfl⟩))
  · have e : swC xs t = pyC xs := by unfold swC; rw [if_neg h1]
    exact .inl ⟨by simp [h1], h1, e, by unfold swL; rw [e, if_neg h1]⟩

set_option maxRecDepth 20000 in
set_option maxHeartbeats 2000000 in
theorem specSwapRules_ok (a : Option Addr) (n ca : Nat) (xs : List R11) (t : Int) (w : World) (ha : RdRule w a xs) (hn : xs.length = n) (hx : n ≤ maxLen) (ht : -9223372036854775808 ≤ t ∧ t ≤ 9223372036854775807) :
    Calls Tryd.prog 23 #[.slice a n ca, .int .i64 t] w fun e w' => ∃ (c : Option Addr) (d k : Nat), e = .returned (.agg #[.int .i64 (swC xs t), .slice c k d]) ∧ (swL xs t).length = k ∧ OwnRule w' w.heap.size c d (swL xs t) ∧ Below w.heap.size w w' := by
  have CP := Hid.mk (fun w h => specPolicyFault_ok a n ca xs w h hn hx)
  have q0 := build_rs0
  have q1 := build_rs1
  have q2 := fieldMeet
  obtain ⟨t1, t2⟩ := ht
  unfold maxLen at hx
  rcases sw_ways xs t with ⟨h1, _, e1, e2⟩ | ⟨h1, h2, e1, e2⟩ | ⟨k, rfl, hk, h1, h2, hw⟩
  · rw [e1, e2]
    clear e1 e2
    generalize pyC xs = kk at *
    go_enter Tryd.func23, Tryd.ntmps23
    have B := Below.refl w.heap.size w
    replace ha := ha.kept (belowA w (.cells #[.int .i64 0, .slice none 0 0] 45))
    replace B := thenB B (belowA w (.cells #[.int .i64 0, .slice none 0 0] 45))
    have VR := V.new w [.int .i64 0, .slice none 0 0] 45
    obtain ⟨s_VR, f_VR, z_VR⟩ := VR.open
    go_wp2_with fail
    refine (CP.out _ ha).mono ?_
    rintro e w1 ⟨rfl, b1⟩
    clear s_VR f_VR z_VR
    have S1 := b1.size
    simp only [World.size_alloc] at S1
    replace VR := VR.kept b1
    replace ha := ha.kept b1
    replace B := thenB B b1
    clear b1
    obtain ⟨s_VR, f_VR, z_VR⟩ := VR.open
    have Bo := B
    clear s_VR f_VR z_VR
    have VF := Hid.mk (VR.filled [.int .i64 kk, .slice none 0 0] rfl)
    have BR := belowCells B (show w.heap.size ≤ w.heap.size by (first | omega | (simp; done) | (simp; omega))) 0 [.int .i64 kk, .slice none 0 0]
    have HT := Hid.mk VR.there
    replace BR := Hid.mk BR
    obtain ⟨s_VR, f_VR, z_VR⟩ := VR.open
    go_wp2_with (refine wpList_store_mid rfl 45 _ _ rfl (w.heap.size) 0 #[.int .i64 kk, .slice none 0 0] rfl rfl HT.out (by kernel_rfl) (by kernel_rfl) ?_)
    refine bodyPost_ret (v := .agg #[.int .i64 kk, .slice none 0 0]) (results_row Tryd.results23 _ _ (w.heap.size) [.int .i64 kk, .slice none 0 0] _ rfl VF.out Tryd.underlying45 rfl (by kernel_rfl)) rfl ⟨none, 0, 0, rfl, rfl, OwnRule.none, BR.out⟩
  · rw [e1, e2]
    clear e1 e2
    rw [h1] at CP
    rw [hn] at h2
    go_enter Tryd.func23, Tryd.ntmps23
    have B := Below.refl w.heap.size w
    replace ha := ha.kept (belowA w (.cells #[.int .i64 0, .slice none 0 0] 45))
    replace B := thenB B (belowA w (.cells #[.int .i64 0, .slice none 0 0] 45))
    have VR := V.new w [.int .i64 0, .slice none 0 0] 45
    obtain ⟨s_VR, f_VR, z_VR⟩ := VR.open
    go_wp2_with fail
    refine (CP.out _ ha).mono ?_
    rintro e w6 ⟨rfl, b6⟩
    clear s_VR f_VR z_VR
    have S6 := b6.size
    simp only [World.size_alloc] at S6
    replace VR := VR.kept b6
    replace ha := ha.kept b6
    replace B := thenB B b6
    clear b6
    obtain ⟨s_VR, f_VR, z_VR⟩ := VR.open
    have Bo := B
    go_wp2_with fail
    refine (l1In_ok _ _ _ _).mono ?_
    rintro e wq ⟨rfl, rfl⟩
    rw [h2]
    clear s_VR f_VR z_VR
    have VF := Hid.mk (VR.filled [.int .i64 3, .slice none 0 0] rfl)
    have BR := belowCells B (show w.heap.size ≤ w.heap.size by (first | omega | (simp; done) | (simp; omega))) 0 [.int .i64 3, .slice none 0 0]
    have HT := Hid.mk VR.there
    replace BR := Hid.mk BR
    obtain ⟨s_VR, f_VR, z_VR⟩ := VR.open
    go_wp2_with (refine wpList_store_mid rfl 45 _ _ rfl (w.heap.size) 0 #[.int .i64 3, .slice none 0 0] rfl rfl HT.out (by kernel_rfl) (by kernel_rfl) ?_)
    refine bodyPost_ret (v := .agg #[.int .i64 3, .slice none 0 0]) (results_row Tryd.results23 _ _ (w.heap.size) [.int .i64 3, .slice none 0 0] _ rfl VF.out Tryd.underlying45 rfl (by kernel_rfl)) rfl ⟨none, 0, 0, rfl, rfl, OwnRule.none, BR.out⟩
  · have hx20 := (pyC_zero h1).1
    rw [h1] at CP
    rw [hn] at h2
    obtain ⟨x, hxx⟩ : ∃ x, xs.getD k zRule = x := ⟨_, rfl⟩
    obtain ⟨y, hyy⟩ : ∃ y, xs.getD (k + 1) zRule = y := ⟨_, rfl⟩
    rw [hxx, hyy] at hw
    obtain ⟨C, hC⟩ : ∃ C, swC xs (k : Int) = C := ⟨_, rfl⟩
    obtain ⟨Lz, hL⟩ : ∃ Lz, swL xs (k : Int) = Lz := ⟨_, rfl⟩
    rw [hC, hL] at hw ⊢
    clear hC hL
    have CM := Hid.mk (fun w => specMeetSels_ok x.s y.s w)
    have hk1 : (k : Int) < (n : Int) := by omega
    have hk2 : (k : Int) + 1 < (n : Int) := by omega
    have hk3 : (k : Int) + 1 ≤ 30 := by omega
    have hn0 : 0 < n := by omega
    go_enter Tryd.func23, Tryd.ntmps23
    have B := Below.refl w.heap.size w
    replace ha := ha.kept (belowA w (.cells #[.int .i64 0, .slice none 0 0] 45))
    replace B := thenB B (belowA w (.cells #[.int .i64 0, .slice none 0 0] 45))
    have VR := V.new w [.int .i64 0, .slice none 0 0] 45
    obtain ⟨s_VR, f_VR, z_VR⟩ := VR.open
    go_wp2_with fail
    refine (CP.out _ ha).mono ?_
    rintro e w11 ⟨rfl, b11⟩
    clear s_VR f_VR z_VR
    have S11 := b11.size
    simp only [World.size_alloc] at S11
    replace VR := VR.kept b11
    replace ha := ha.kept b11
    replace B := thenB B b11
    clear b11
    obtain ⟨s_VR, f_VR, z_VR⟩ := VR.open
    have Bo := B
    go_wp2_with fail
    refine (l1In_ok _ _ _ _).mono ?_
    rintro e wq ⟨rfl, rfl⟩
    rw [h2]
    clear s_VR f_VR z_VR
    rcases ha with h0 | ⟨b1, o1, rfl, hca⟩
    · rw [h0] at hn; simp at hn; omega
    obtain ⟨p0, p1, p2, p3, p4, p5, p6, p7, p8, p9, p10⟩ := RdRule.cells hca k (by omega) x hxx
    obtain ⟨q0', q1', q2', q3, q4, q5, q6, q7, q8, q9, q10⟩ := RdRule.cells hca (k + 1) (by omega) y hyy
    have hb1 := World.block_lt_of_cell? (a := ⟨b1, o1 + k * 11, none⟩) _ p0
    simp only at hb1
    have ha : RdRule wq (some ⟨b1, o1, none⟩) xs := .inr ⟨b1, o1, rfl, hca⟩
    clear hca
    replace VR := VR.kept (belowA wq (.cells #[.int .i64 x.s.a, .int .i64 x.s.b, .int .i64 x.s.c, .int .i64 x.s.d, .int .i64 x.s.e, .int .i64 x.s.f, .int .i64 x.s.g, .int .i64 x.s.h, .int .i64 x.s.r, .int .i64 x.p, .int .i64 x.q] 34))
    replace ha := ha.kept (belowA wq (.cells #[.int .i64 x.s.a, .int .i64 x.s.b, .int .i64 x.s.c, .int .i64 x.s.d, .int .i64 x.s.e, .int .i64 x.s.f, .int .i64 x.s.g, .int .i64 x.s.h, .int .i64 x.s.r, .int .i64 x.p, .int .i64 x.q] 34))
    replace B := thenB B (belowA wq (.cells #[.int .i64 x.s.a, .int .i64 x.s.b, .int .i64 x.s.c, .int .i64 x.s.d, .int .i64 x.s.e, .int .i64 x.s.f, .int .i64 x.s.g, .int .i64 x.s.h, .int .i64 x.s.r, .int .i64 x.p, .int .i64 x.q] 34))
    have VA := V.new wq [.int .i64 x.s.a, .int .i64 x.s.b, .int .i64 x.s.c, .int .i64 x.s.d, .int .i64 x.s.e, .int .i64 x.s.f, .int .i64 x.s.g, .int .i64 x.s.h, .int .i64 x.s.r, .int .i64 x.p, .int .i64 x.q] 34
    replace VR := VR.kept (belowA (wq.alloc (.cells #[.int .i64 x.s.a, .int .i64 x.s.b, .int .i64 x.s.c, .int .i64 x.s.d, .int .i64 x.s.e, .int .i64 x.s.f, .int .i64 x.s.g, .int .i64 x.s.h, .int .i64 x.s.r, .int .i64 x.p, .int .i64 x.q] 34)) (.cells #[.int .i64 y.s.a, .int .i64 y.s.b, .int .i64 y.s.c, .int .i64 y.s.d, .int .i64 y.s.e, .int .i64 y.s.f, .int .i64 y.s.g, .int .i64 y.s.h, .int .i64 y.s.r, .int .i64 y.p, .int .i64 y.q] 34))
    replace VA := VA.kept (belowA (wq.alloc (.cells #[.int .i64 x.s.a, .int .i64 x.s.b, .int .i64 x.s.c, .int .i64 x.s.d, .int .i64 x.s.e, .int .i64 x.s.f, .int .i64 x.s.g, .int .i64 x.s.h, .int .i64 x.s.r, .int .i64 x.p, .int .i64 x.q] 34)) (.cells #[.int .i64 y.s.a, .int .i64 y.s.b, .int .i64 y.s.c, .int .i64 y.s.d, .int .i64 y.s.e, .int .i64 y.s.f, .int .i64 y.s.g, .int .i64 y.s.h, .int .i64 y.s.r, .int .i64 y.p, .int .i64 y.q] 34))
    replace ha := ha.kept (belowA (wq.alloc (.cells #[.int .i64 x.s.a, .int .i64 x.s.b, .int .i64 x.s.c, .int .i64 x.s.d, .int .i64 x.s.e, .int .i64 x.s.f, .int .i64 x.s.g, .int .i64 x.s.h, .int .i64 x.s.r, .int .i64 x.p, .int .i64 x.q] 34)) (.cells #[.int .i64 y.s.a, .int .i64 y.s.b, .int .i64 y.s.c, .int .i64 y.s.d, .int .i64 y.s.e, .int .i64 y.s.f, .int .i64 y.s.g, .int .i64 y.s.h, .int .i64 y.s.r, .int .i64 y.p, .int .i64 y.q] 34))
    replace B := thenB B (belowA (wq.alloc (.cells #[.int .i64 x.s.a, .int .i64 x.s.b, .int .i64 x.s.c, .int .i64 x.s.d, .int .i64 x.s.e, .int .i64 x.s.f, .int .i64 x.s.g, .int .i64 x.s.h, .int .i64 x.s.r, .int .i64 x.p, .int .i64 x.q] 34)) (.cells #[.int .i64 y.s.a, .int .i64 y.s.b, .int .i64 y.s.c, .int .i64 y.s.d, .int .i64 y.s.e, .int .i64 y.s.f, .int .i64 y.s.g, .int .i64 y.s.h, .int .i64 y.s.r, .int .i64 y.p, .int .i64 y.q] 34))
    have VB : V ((wq.alloc (.cells #[.int .i64 x.s.a, .int .i64 x.s.b, .int .i64 x.s.c, .int .i64 x.s.d, .int .i64 x.s.e, .int .i64 x.s.f, .int .i64 x.s.g, .int .i64 x.s.h, .int .i64 x.s.r, .int .i64 x.p, .int .i64 x.q] 34)).alloc (.cells #[.int .i64 y.s.a, .int .i64 y.s.b, .int .i64 y.s.c, .int .i64 y.s.d, .int .i64 y.s.e, .int .i64 y.s.f, .int .i64 y.s.g, .int .i64 y.s.h, .int .i64 y.s.r, .int .i64 y.p, .int .i64 y.q] 34)) (wq.heap.size + 1) [.int .i64 y.s.a, .int .i64 y.s.b, .int .i64 y.s.c, .int .i64 y.s.d, .int .i64 y.s.e, .int .i64 y.s.f, .int .i64 y.s.g, .int .i64 y.s.h, .int .i64 y.s.r, .int .i64 y.p, .int .i64 y.q] := V.newAt _ _ _ _ (by simp)
    obtain ⟨s_VR, f_VR, z_VR⟩ := VR.open
    obtain ⟨s_VA, f_VA, z_VA⟩ := VA.open
    obtain ⟨s_VB, f_VB, z_VB⟩ := VB.open
    have Bo := B
    go_wp2_with fail
    refine (CM.out _).mono ?_
    rintro e w12 ⟨rfl, b12⟩
    clear s_VR f_VR z_VR s_VA f_VA z_VA s_VB f_VB z_VB
    have S12 := b12.size
    simp only [World.size_alloc] at S12
    replace VR := VR.kept b12
    replace VA := VA.kept b12
    replace VB := VB.kept b12
    replace ha := ha.kept b12
    replace B := thenB B b12
    clear b12
    obtain ⟨s_VR, f_VR, z_VR⟩ := VR.open
    obtain ⟨s_VA, f_VA, z_VA⟩ := VA.open
    obtain ⟨s_VB, f_VB, z_VB⟩ := VB.open
    have Bo := B
    clear p0 p1 p2 p3 p4 p5 p6 p7 p8 p9 p10 q0' q1' q2' q3 q4 q5 q6 q7 q8 q9 q10
    generalize mtS x.s y.s = z at *
    generalize mtC x.s y.s = mm at *
    rcases hw with ⟨rfl, h5, e1, e2⟩ | ⟨rfl, h5, h6, e1, e2⟩ | ⟨rfl, h5, h6, e1, e2⟩ | ⟨h4, e1, e2⟩
    · replace e1 := Hid.mk e1
      replace e2 := Hid.mk e2
      clear s_VR f_VR z_VR s_VA f_VA z_VA s_VB f_VB z_VB
      have VF := Hid.mk (VR.filled [.int .i64 1, .slice none 0 0] rfl)
      have BR := belowCells B (show w.heap.size ≤ w.heap.size by (first | omega | (simp; done) | (simp; omega))) 0 [.int .i64 1, .slice none 0 0]
      have HT := Hid.mk VR.there
      replace BR := Hid.mk BR
      obtain ⟨s_VR, f_VR, z_VR⟩ := VR.open
      obtain ⟨s_VA, f_VA, z_VA⟩ := VA.open
      obtain ⟨s_VB, f_VB, z_VB⟩ := VB.open
      go_wp2_with (refine wpList_store_mid rfl 45 _ _ rfl (w.heap.size) 0 #[.int .i64 1, .slice none 0 0] rfl rfl HT.out (by kernel_rfl) (by kernel_rfl) ?_)
      refine bodyPost_ret (v := .agg #[.int .i64 1, .slice none 0 0]) (results_row Tryd.results23 _ _ (w.heap.size) [.int .i64 1, .slice none 0 0] _ rfl VF.out Tryd.underlying45 rfl (by kernel_rfl)) rfl ⟨none, 0, 0, by rw [e1.out], by rw [e2.out]; rfl, by rw [e2.out]; exact OwnRule.none, BR.out⟩
    · replace e1 := Hid.mk e1
      replace e2 := Hid.mk e2
      clear s_VR f_VR z_VR s_VA f_VA z_VA s_VB f_VB z_VB
      have VF := Hid.mk (VR.filled [.int .i64 1, .slice none 0 0] rfl)
      have BR := belowCells B (show w.heap.size ≤ w.heap.size by (first | omega | (simp; done) | (simp; omega))) 0 [.int .i64 1, .slice none 0 0]
      have HT := Hid.mk VR.there
      replace BR := Hid.mk BR
      obtain ⟨s_VR, f_VR, z_VR⟩ := VR.open
      obtain ⟨s_VA, f_VA, z_VA⟩ := VA.open
      obtain ⟨s_VB, f_VB, z_VB⟩ := VB.open
      go_wp2_with (refine wpList_store_mid rfl 45 _ _ rfl (w.heap.size) 0 #[.int .i64 1, .slice none 0 0] rfl rfl HT.out (by kernel_rfl) (by kernel_rfl) ?_)
      refine bodyPost_ret (v := .agg #[.int .i64 1, .slice none 0 0]) (results_row Tryd.results23 _ _ (w.heap.size) [.int .i64 1, .slice none 0 0] _ rfl VF.out Tryd.underlying45 rfl (by kernel_rfl)) rfl ⟨none, 0, 0, by rw [e1.out], by rw [e2.out]; rfl, by rw [e2.out]; exact OwnRule.none, BR.out⟩
    · replace e1 := Hid.mk e1
      replace e2 := Hid.mk e2
      clear s_VR f_VR z_VR s_VA f_VA z_VA s_VB f_VB z_VB
      obtain ⟨s_VA, f_VA, z_VA⟩ := VA.open
      obtain ⟨s_VB, f_VB, z_VB⟩ := VB.open
      obtain ⟨s_VR, f_VR, z_VR⟩ := VR.open
      have hB3 := B.size
      have OL := OwnRule.lit w12 [] [] rfl (by decide)
      have ha' := ha.kept (belowA w12 (.cells #[] 34))
      have VA' := Hid.mk (VA.kept (belowA w12 (.cells #[] 34)))
      have VB' := Hid.mk (VB.kept (belowA w12 (.cells #[] 34)))
      have VR' := Hid.mk (VR.kept (belowA w12 (.cells #[] 34)))
      have B' := Hid.mk (thenB B (belowA w12 (.cells #[] 34)))
      clear B VA VB VR ha Bo
      have hA1 := VA'.out.1
      have hA2 := VB'.out.1
      have hA3 := VR'.out.1
      simp only [World.size_alloc] at hA1 hA2 hA3
      go_wp2_with (at_builtin; go_loud (refine wpList_putsRule _ rfl _ _ rfl w12.heap.size (some ⟨w12.heap.size, 0, none⟩) 0 [] 0 rfl rfl OL b1 o1 n ca xs rfl ha' hn hn0 (by omega) (by simp) ?_))
      intro c4 d4 w4 O4 hg4 hx4
      obtain ⟨c5, rfl, hc5, hc6⟩ := hx4.out
      (try simp only [Option.map_some] at hg4)
      have hc7 := (O4.lt _ rfl).1
      simp only at hc7
      clear s_VA f_VA z_VA s_VB f_VB z_VB s_VR f_VR z_VR
      have VA := VA'.out.grownR hg4 (by simp; omega)
      have VB := VB'.out.grownR hg4 (by simp; omega)
      have VR := VR'.out.grownR hg4 (by simp; omega)
      have B := B'.out.grown hg4 (by have := B'.out.size; omega) (by intro k hk; simp at hk; omega)
      clear VA' VB' VR' B' hg4 hx4 OL ha' hc5
      have HT1 := Hid.mk (O4.there k (by omega))
      generalize hK1 : k * 11 = K1 at *
      generalize hK2 : (k + 1) * 11 = K2 at *
      have O5 := O4.stroke k (by omega) y
      dsimp only [rowRule] at O5
      rw [hK1] at O5
      have hA : wq.heap.size ≠ c5 := by omega
      have hB : wq.heap.size + 1 ≠ c5 := by omega
      have hR : w.heap.size ≠ c5 := by omega
      have hwc : w.heap.size ≤ c5 := by have := B.size; omega
      have VA6 := VA.apart hA K1 [.int .i64 y.s.a, .int .i64 y.s.b, .int .i64 y.s.c, .int .i64 y.s.d, .int .i64 y.s.e, .int .i64 y.s.f, .int .i64 y.s.g, .int .i64 y.s.h, .int .i64 y.s.r, .int .i64 y.p, .int .i64 y.q]
      have VR6 := VR.apart hR K1 [.int .i64 y.s.a, .int .i64 y.s.b, .int .i64 y.s.c, .int .i64 y.s.d, .int .i64 y.s.e, .int .i64 y.s.f, .int .i64 y.s.g, .int .i64 y.s.h, .int .i64 y.s.r, .int .i64 y.p, .int .i64 y.q]
      have B6 := belowCells B hwc K1 [.int .i64 y.s.a, .int .i64 y.s.b, .int .i64 y.s.c, .int .i64 y.s.d, .int .i64 y.s.e, .int .i64 y.s.f, .int .i64 y.s.g, .int .i64 y.s.h, .int .i64 y.s.r, .int .i64 y.p, .int .i64 y.q]
      obtain ⟨w6, hw6⟩ : ∃ w6, w4.setCells c5 K1 [.int .i64 y.s.a, .int .i64 y.s.b, .int .i64 y.s.c, .int .i64 y.s.d, .int .i64 y.s.e, .int .i64 y.s.f, .int .i64 y.s.g, .int .i64 y.s.h, .int .i64 y.s.r, .int .i64 y.p, .int .i64 y.q] = w6 := ⟨_, rfl⟩
      rw [hw6] at O5 VA6 VR6 B6
      replace hw6 := Hid.mk hw6
      have HT2 := O5.there (k + 1) (by rw [List.length_set]; omega)
      rw [hK2] at HT2
      replace HT2 := Hid.mk HT2
      have O6 := O5.stroke (k + 1) (by rw [List.length_set]; omega) x
      dsimp only [rowRule] at O6
      rw [hK2] at O6
      have VR7 := VR6.apart hR K2 [.int .i64 x.s.a, .int .i64 x.s.b, .int .i64 x.s.c, .int .i64 x.s.d, .int .i64 x.s.e, .int .i64 x.s.f, .int .i64 x.s.g, .int .i64 x.s.h, .int .i64 x.s.r, .int .i64 x.p, .int .i64 x.q]
      have B7 := belowCells B6 hwc K2 [.int .i64 x.s.a, .int .i64 x.s.b, .int .i64 x.s.c, .int .i64 x.s.d, .int .i64 x.s.e, .int .i64 x.s.f, .int .i64 x.s.g, .int .i64 x.s.h, .int .i64 x.s.r, .int .i64 x.p, .int .i64 x.q]
      obtain ⟨w7, hw7⟩ : ∃ w7, w6.setCells c5 K2 [.int .i64 x.s.a, .int .i64 x.s.b, .int .i64 x.s.c, .int .i64 x.s.d, .int .i64 x.s.e, .int .i64 x.s.f, .int .i64 x.s.g, .int .i64 x.s.h, .int .i64 x.s.r, .int .i64 x.p, .int .i64 x.q] = w7 := ⟨_, rfl⟩
      rw [hw7] at O6 VR7 B7
      replace hw7 := Hid.mk hw7
      have HT3 := Hid.mk VR7.there
      have VF := VR7.filled [.int .i64 0, .slice (some ⟨c5, 0, none⟩) n d4] rfl
      have BR := belowCells B7 (show w.heap.size ≤ w.heap.size by omega) 0 [.int .i64 0, .slice (some ⟨c5, 0, none⟩) n d4]
      have O7 := OwnRule.mono (O6.apart (B := w.heap.size) (by intro b hb; simp at hb; subst hb; simp; omega) 0 [.int .i64 0, .slice (some ⟨c5, 0, none⟩) n d4]) (show w.heap.size ≤ _ by have := B.size; omega)
      obtain ⟨w8, hw8⟩ : ∃ w8, w7.setCells (w.heap.size) 0 [.int .i64 0, .slice (some ⟨c5, 0, none⟩) n d4] = w8 := ⟨_, rfl⟩
      rw [hw8] at VF BR O7
      replace hw8 := Hid.mk hw8
      replace VF := Hid.mk VF
      replace BR := Hid.mk BR
      replace O7 := Hid.mk O7
      clear O4 O5 O6 B B6 B7
      obtain ⟨s_VB, f_VB, z_VB⟩ := VB.open
      obtain ⟨s_VA6, f_VA6, z_VA6⟩ := VA6.open
      clear VA VB VR VA6 VR6 VR7
      go_upto_region 12 with (refine wpList_stroke w6 rfl 34 _ _ rfl c5 K1 #[.int .i64 y.s.a, .int .i64 y.s.b, .int .i64 y.s.c, .int .i64 y.s.d, .int .i64 y.s.e, .int .i64 y.s.f, .int .i64 y.s.g, .int .i64 y.s.h, .int .i64 y.s.r, .int .i64 y.p, .int .i64 y.q] rfl rfl HT1.out (by kernel_rfl) (by kernel_rfl) hw6.out ?_)
      go_upto_region 13 with (refine wpList_stroke w7 rfl 34 _ _ rfl c5 K2 #[.int .i64 x.s.a, .int .i64 x.s.b, .int .i64 x.s.c, .int .i64 x.s.d, .int .i64 x.s.e, .int .i64 x.s.f, .int .i64 x.s.g, .int .i64 x.s.h, .int .i64 x.s.r, .int .i64 x.p, .int .i64 x.q] rfl rfl HT2.out (by kernel_rfl) (by kernel_rfl) hw7.out ?_)
      go_wp2_with (refine wpList_stroke w8 rfl 45 _ _ rfl (w.heap.size) 0 #[.int .i64 0, .slice (some ⟨c5, 0, none⟩) n d4] rfl rfl HT3.out (by kernel_rfl) (by kernel_rfl) hw8.out ?_)
      refine bodyPost_ret (v := .agg #[.int .i64 0, .slice (some ⟨c5, 0, none⟩) n d4]) (results_row Tryd.results23 _ _ (w.heap.size) [.int .i64 0, .slice (some ⟨c5, 0, none⟩) n d4] _ rfl VF.out Tryd.underlying45 rfl (by kernel_rfl)) rfl ⟨some ⟨c5, 0, none⟩, d4, n, by rw [e1.out], by rw [e2.out]; simp [hn], by rw [e2.out]; exact O7.out, BR.out⟩
    · replace e1 := Hid.mk e1
      replace e2 := Hid.mk e2
      clear s_VR f_VR z_VR s_VA f_VA z_VA s_VB f_VB z_VB
      obtain ⟨s_VA, f_VA, z_VA⟩ := VA.open
      obtain ⟨s_VB, f_VB, z_VB⟩ := VB.open
      obtain ⟨s_VR, f_VR, z_VR⟩ := VR.open
      have hB3 := B.size
      have OL := OwnRule.lit w12 [] [] rfl (by decide)
      have ha' := ha.kept (belowA w12 (.cells #[] 34))
      have VA' := Hid.mk (VA.kept (belowA w12 (.cells #[] 34)))
      have VB' := Hid.mk (VB.kept (belowA w12 (.cells #[] 34)))
      have VR' := Hid.mk (VR.kept (belowA w12 (.cells #[] 34)))
      have B' := Hid.mk (thenB B (belowA w12 (.cells #[] 34)))
      clear B VA VB VR ha Bo
      have hA1 := VA'.out.1
      have hA2 := VB'.out.1
      have hA3 := VR'.out.1
      simp only [World.size_alloc] at hA1 hA2 hA3
      go_wp2_with (at_builtin; go_loud (refine wpList_putsRule _ rfl _ _ rfl w12.heap.size (some ⟨w12.heap.size, 0, none⟩) 0 [] 0 rfl rfl OL b1 o1 n ca xs rfl ha' hn hn0 (by omega) (by simp) ?_))
      intro c4 d4 w4 O4 hg4 hx4
      obtain ⟨c5, rfl, hc5, hc6⟩ := hx4.out
      (try simp only [Option.map_some] at hg4)
      have hc7 := (O4.lt _ rfl).1
      simp only at hc7
      clear s_VA f_VA z_VA s_VB f_VB z_VB s_VR f_VR z_VR
      have VA := VA'.out.grownR hg4 (by simp; omega)
      have VB := VB'.out.grownR hg4 (by simp; omega)
      have VR := VR'.out.grownR hg4 (by simp; omega)
      have B := B'.out.grown hg4 (by have := B'.out.size; omega) (by intro k hk; simp at hk; omega)
      clear VA' VB' VR' B' hg4 hx4 OL ha' hc5
      have HT1 := Hid.mk (O4.there k (by omega))
      generalize hK1 : k * 11 = K1 at *
      generalize hK2 : (k + 1) * 11 = K2 at *
      have O5 := O4.stroke k (by omega) y
      dsimp only [rowRule] at O5
      rw [hK1] at O5
      have hA : wq.heap.size ≠ c5 := by omega
      have hB : wq.heap.size + 1 ≠ c5 := by omega
      have hR : w.heap.size ≠ c5 := by omega
      have hwc : w.heap.size ≤ c5 := by have := B.size; omega
      have VA6 := VA.apart hA K1 [.int .i64 y.s.a, .int .i64 y.s.b, .int .i64 y.s.c, .int .i64 y.s.d, .int .i64 y.s.e, .int .i64 y.s.f, .int .i64 y.s.g, .int .i64 y.s.h, .int .i64 y.s.r, .int .i64 y.p, .int .i64 y.q]
      have VR6 := VR.apart hR K1 [.int .i64 y.s.a, .int .i64 y.s.b, .int .i64 y.s.c, .int .i64 y.s.d, .int .i64 y.s.e, .int .i64 y.s.f, .int .i64 y.s.g, .int .i64 y.s.h, .int .i64 y.s.r, .int .i64 y.p, .int .i64 y.q]
      have B6 := belowCells B hwc K1 [.int .i64 y.s.a, .int .i64 y.s.b, .int .i64 y.s.c, .int .i64 y.s.d, .int .i64 y.s.e, .int .i64 y.s.f, .int .i64 y.s.g, .int .i64 y.s.h, .int .i64 y.s.r, .int .i64 y.p, .int .i64 y.q]
      obtain ⟨w6, hw6⟩ : ∃ w6, w4.setCells c5 K1 [.int .i64 y.s.a, .int .i64 y.s.b, .int .i64 y.s.c, .int .i64 y.s.d, .int .i64 y.s.e, .int .i64 y.s.f, .int .i64 y.s.g, .int .i64 y.s.h, .int .i64 y.s.r, .int .i64 y.p, .int .i64 y.q] = w6 := ⟨_, rfl⟩
      rw [hw6] at O5 VA6 VR6 B6
      replace hw6 := Hid.mk hw6
      have HT2 := O5.there (k + 1) (by rw [List.length_set]; omega)
      rw [hK2] at HT2
      replace HT2 := Hid.mk HT2
      have O6 := O5.stroke (k + 1) (by rw [List.length_set]; omega) x
      dsimp only [rowRule] at O6
      rw [hK2] at O6
      have VR7 := VR6.apart hR K2 [.int .i64 x.s.a, .int .i64 x.s.b, .int .i64 x.s.c, .int .i64 x.s.d, .int .i64 x.s.e, .int .i64 x.s.f, .int .i64 x.s.g, .int .i64 x.s.h, .int .i64 x.s.r, .int .i64 x.p, .int .i64 x.q]
      have B7 := belowCells B6 hwc K2 [.int .i64 x.s.a, .int .i64 x.s.b, .int .i64 x.s.c, .int .i64 x.s.d, .int .i64 x.s.e, .int .i64 x.s.f, .int .i64 x.s.g, .int .i64 x.s.h, .int .i64 x.s.r, .int .i64 x.p, .int .i64 x.q]
      obtain ⟨w7, hw7⟩ : ∃ w7, w6.setCells c5 K2 [.int .i64 x.s.a, .int .i64 x.s.b, .int .i64 x.s.c, .int .i64 x.s.d, .int .i64 x.s.e, .int .i64 x.s.f, .int .i64 x.s.g, .int .i64 x.s.h, .int .i64 x.s.r, .int .i64 x.p, .int .i64 x.q] = w7 := ⟨_, rfl⟩
      rw [hw7] at O6 VR7 B7
      replace hw7 := Hid.mk hw7
      have HT3 := Hid.mk VR7.there
      have VF := VR7.filled [.int .i64 0, .slice (some ⟨c5, 0, none⟩) n d4] rfl
      have BR := belowCells B7 (show w.heap.size ≤ w.heap.size by omega) 0 [.int .i64 0, .slice (some ⟨c5, 0, none⟩) n d4]
      have O7 := OwnRule.mono (O6.apart (B := w.heap.size) (by intro b hb; simp at hb; subst hb; simp; omega) 0 [.int .i64 0, .slice (some ⟨c5, 0, none⟩) n d4]) (show w.heap.size ≤ _ by have := B.size; omega)
      obtain ⟨w8, hw8⟩ : ∃ w8, w7.setCells (w.heap.size) 0 [.int .i64 0, .slice (some ⟨c5, 0, none⟩) n d4] = w8 := ⟨_, rfl⟩
      rw [hw8] at VF BR O7
      replace hw8 := Hid.mk hw8
      replace VF := Hid.mk VF
      replace BR := Hid.mk BR
      replace O7 := Hid.mk O7
      clear O4 O5 O6 B B6 B7
      obtain ⟨s_VB, f_VB, z_VB⟩ := VB.open
      obtain ⟨s_VA6, f_VA6, z_VA6⟩ := VA6.open
      clear VA VB VR VA6 VR6 VR7
      go_upto_region 12 with (refine wpList_stroke w6 rfl 34 _ _ rfl c5 K1 #[.int .i64 y.s.a, .int .i64 y.s.b, .int .i64 y.s.c, .int .i64 y.s.d, .int .i64 y.s.e, .int .i64 y.s.f, .int .i64 y.s.g, .int .i64 y.s.h, .int .i64 y.s.r, .int .i64 y.p, .int .i64 y.q] rfl rfl HT1.out (by kernel_rfl) (by kernel_rfl) hw6.out ?_)
      go_upto_region 13 with (refine wpList_stroke w7 rfl 34 _ _ rfl c5 K2 #[.int .i64 x.s.a, .int .i64 x.s.b, .int .i64 x.s.c, .int .i64 x.s.d, .int .i64 x.s.e, .int .i64 x.s.f, .int .i64 x.s.g, .int .i64 x.s.h, .int .i64 x.s.r, .int .i64 x.p, .int .i64 x.q] rfl rfl HT2.out (by kernel_rfl) (by kernel_rfl) hw7.out ?_)
      go_wp2_with (refine wpList_stroke w8 rfl 45 _ _ rfl (w.heap.size) 0 #[.int .i64 0, .slice (some ⟨c5, 0, none⟩) n d4] rfl rfl HT3.out (by kernel_rfl) (by kernel_rfl) hw8.out ?_)
      refine bodyPost_ret (v := .agg #[.int .i64 0, .slice (some ⟨c5, 0, none⟩) n d4]) (results_row Tryd.results23 _ _ (w.heap.size) [.int .i64 0, .slice (some ⟨c5, 0, none⟩) n d4] _ rfl VF.out Tryd.underlying45 rfl (by kernel_rfl)) rfl ⟨some ⟨c5, 0, none⟩, d4, n, by rw [e1.out], by rw [e2.out]; simp [hn], by rw [e2.out]; exact O7.out, BR.out⟩

end Go.Proofs.YtngkahchhioncaaDoor
