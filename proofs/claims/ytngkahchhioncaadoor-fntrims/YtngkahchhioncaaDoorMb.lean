/- Put together: NrB, PolI, PolD, RuleH, IntH, RuleG, PolK, PolM, PolN, PolP, PolQ. -/
import Derived.Test.YtngkahchhioncaaDoorNrA
import Derived.Test.YtngkahchhioncaaDoorMtB
import Derived.Test.YtngkahchhioncaaDoorSelW
import Derived.Test.YtngkahchhioncaaDoorPolG
import Derived.Test.YtngkahchhioncaaDoorMa
import Derived.Test.YtngkahchhioncaaDoorMtF
import Derived.Test.YtngkahchhioncaaDoorFill
import Derived.Deep.DeepCutAuto
import Derived.Test.YtngkahchhioncaaDoorRuleA
import Derived.Test.YtngkahchhioncaaDoorSelH
import Derived.Deep.RegionHeld3
import Derived.Test.YtngkahchhioncaaDoorVar
import Derived.WalkSpells
import Derived.Lib.SliceRun
import Derived.Test.YtngkahchhioncaaDoorPur2

/- Lists of selectors narrowed: the program. -/
namespace Go.Proofs.YtngkahchhioncaaDoor
open Go.RowKit

set_option maxHeartbeats 2000000 in
theorem isWithinAny_ok (z : S9) (a : Option Addr) (n ca : Nat) (xs : List S9) (w : World) (ha : RdL w a xs) (hn : xs.length = n) (hx : n ≤ maxLen) :
    Calls Tryd.prog 75 #[.agg #[.int .i64 z.a, .int .i64 z.b, .int .i64 z.c, .int .i64 z.d, .int .i64 z.e, .int .i64 z.f, .int .i64 z.g, .int .i64 z.h, .int .i64 z.r], .slice a n ca] w fun e w' => e = .returned (.bool (xs.any fun o => wiP z o)) ∧ Below w.heap.size w w' := by
  unfold maxLen at hx
  have VP := V.new w [.int .i64 z.a, .int .i64 z.b, .int .i64 z.c, .int .i64 z.d, .int .i64 z.e, .int .i64 z.f, .int .i64 z.g, .int .i64 z.h, .int .i64 z.r] 32
  have B := belowA w (.cells #[.int .i64 z.a, .int .i64 z.b, .int .i64 z.c, .int .i64 z.d, .int .i64 z.e, .int .i64 z.f, .int .i64 z.g, .int .i64 z.h, .int .i64 z.r] 32)
  replace ha := ha.kept B
  go_enter Tryd.func75, Tryd.ntmps75
  go_wp2
  go_loopw [9] (fun i wr => ∃ k : Nat, k ≤ n ∧ i = .int .i64 k ∧ ((xs.drop k).any fun o => wiP z o) = (xs.any fun o => wiP z o) ∧ V wr w.heap.size [.int .i64 z.a, .int .i64 z.b, .int .i64 z.c, .int .i64 z.d, .int .i64 z.e, .int .i64 z.f, .int .i64 z.g, .int .i64 z.h, .int .i64 z.r] ∧ RdL wr a xs ∧ Below w.heap.size w wr) (fun i _ => n - (intOf i).toNat)
  case atStart => exact ⟨0, Nat.zero_le _, rfl, rfl, VP, ha, B⟩
  case round =>
    clear VP ha B
    obtain ⟨k, hk, rfl, hdr, VP, ha, B⟩ := hrel
    by_cases hlt : k < n
    · have HA := Hid.mk ha
      rcases ha with ha | ⟨b1, o1, rfl, hca⟩
      · simp [ha] at hn; omega
      obtain ⟨x, hx1⟩ : ∃ x, xs.getD k z9 = x := ⟨_, rfl⟩
      obtain ⟨p0, p1, p2, p3, p4, p5, p6, p7, p8⟩ := RdL.nine hca k (by omega) x hx1
      have hk1 : (k : Int) < (n : Int) := by omega
      have hs := any_dropS (fun o => wiP z o) xs k (by omega) hx1
      rw [hdr] at hs
      clear hca hx1 hdr
      have CX := Hid.mk (fun w => implWithinSel_ok z x w)
      replace VP := VP.kept (belowA wr (.cells #[.int .i64 x.a, .int .i64 x.b, .int .i64 x.c, .int .i64 x.d, .int .i64 x.e, .int .i64 x.f, .int .i64 x.g, .int .i64 x.h, .int .i64 x.r] 32))
      have VQ := V.new wr [.int .i64 x.a, .int .i64 x.b, .int .i64 x.c, .int .i64 x.d, .int .i64 x.e, .int .i64 x.f, .int .i64 x.g, .int .i64 x.h, .int .i64 x.r] 32
      replace B := B.alloc B.size (.cells #[.int .i64 x.a, .int .i64 x.b, .int .i64 x.c, .int .i64 x.d, .int .i64 x.e, .int .i64 x.f, .int .i64 x.g, .int .i64 x.h, .int .i64 x.r] 32)
      replace HA := Hid.mk (HA.out.kept (belowA wr (.cells #[.int .i64 x.a, .int .i64 x.b, .int .i64 x.c, .int .i64 x.d, .int .i64 x.e, .int .i64 x.f, .int .i64 x.g, .int .i64 x.h, .int .i64 x.r] 32)))
      obtain ⟨s_VP, f_VP, z_VP⟩ := VP.open
      obtain ⟨s_VQ, f_VQ, z_VQ⟩ := VQ.open
      have HS := Hid.mk hs
      clear hs
      cases hg : wiP z x
      all_goals
        rw [hg] at CX HS
        clear hg
        go_wp2_with fail
        refine (CX.out _).mono ?_
        rintro e w2 ⟨rfl, b2⟩
        replace VP := Hid.mk (VP.kept b2)
        replace B := Hid.mk (B.trans (b2.mono B.size))
        replace HA := Hid.mk (HA.out.kept b2)
        clear b2 s_VP f_VP z_VP s_VQ f_VQ z_VQ VQ p0 p1 p2 p3 p4 p5 p6 p7 p8
      · rw [Bool.false_or] at HS
        go_wp2
        go_roundw
        case rel => exact ⟨k + 1, by omega, by go_num, HS.out.symm, VP.out, HA.out, B.out⟩
        case measure => simp [intOf]; omega
      · go_wp2
        go_ret
        exact ⟨ret_bool HS.out.symm, B.out⟩
    · have hkn : k = n := by omega
      subst hkn
      rw [List.drop_of_length_le (by omega)] at hdr
      have HS := Hid.mk hdr
      clear hdr
      go_wp2
      go_ret
      exact ⟨ret_bool HS.out, B⟩

end Go.Proofs.YtngkahchhioncaaDoor

/- What is shadowed: the program. -/
namespace Go.Proofs.YtngkahchhioncaaDoor
open Go.RowKit

/-- Two rows that share no memory. -/
def Apart (a b : Option Addr) : Prop := ∀ x y : Addr, a = some x → b = some y → x.block ≠ y.block

theorem Apart.none_l {b : Option Addr} : Apart none b := fun _ _ h => by cases h

theorem Apart.symm {a b : Option Addr} (h : Apart a b) : Apart b a := fun x y hx hy e => h y x hy hx e.symm

theorem Apart.row {a b : Option Addr} (h : Apart a b) : ∀ x : Addr, a = some x → b.map Addr.block ≠ some x.block := by
  intro x hx
  cases b with
  | none => simp
  | some y => intro e; simp only [Option.map_some, Option.some.injEq] at e; exact h x y hx rfl e.symm

/-- The other one has grown. -/
theorem Apart.put {a b c : Option Addr} {n : Nat} {w' : World} (h : Apart a b) (hl : ∀ x, a = some x → x.block < n) (hx : ∃ g, c = some ⟨g, 0, none⟩ ∧ ((∃ a, b = some a ∧ a.block = g) ∨ g = n) ∧ g < w'.heap.size) : Apart a c := by
  intro x y hx1 hy
  obtain ⟨g, rfl, h1, _⟩ := hx
  simp only [Option.some.injEq] at hy
  subst hy
  have h2 := hl x hx1
  rcases h1 with ⟨z, h3, h4⟩ | h3
  · have := h x z hx1 h3
    simp only; omega
  · simp only; omega

theorem far_row {a : Option Addr} {base B : Nat} (h : ∀ b, a = some b → base ≤ b.block) (hB : B < base) : a.map Addr.block ≠ some B :=
  row_ne fun b hb => by have := h b hb; omega

/-- The selectors of the first 'k' rules. -/
def aheadS (xs : List R11) (k : Nat) : List S9 := (xs.take k).map R11.s

theorem any_within {xs : List R11} {z : S9} (h : ∀ x ∈ xs, sfC x.s = 0) (hz : sfC z = 0) (k : Nat) : ((aheadS xs k).any fun o => wiP z o) = shP xs z k := by
  unfold shP aheadS
  rw [List.any_map, Bool.eq_iff_iff, List.any_eq_true, List.any_eq_true]
  constructor
  · rintro ⟨y, hy, h1⟩
    refine ⟨y, hy, ?_⟩
    simp only [Function.comp] at h1
    unfold wiP at h1
    simp only [Bool.and_eq_true] at h1
    exact h1.2.2
  · rintro ⟨y, hy, h1⟩
    refine ⟨y, hy, ?_⟩
    simp only [Function.comp]
    unfold wiP
    simp only [Bool.and_eq_true, beq_iff_eq]
    exact ⟨hz, h y (List.mem_of_mem_take hy), h1⟩

theorem takeSels (xs : List R11) (k : Nat) (h : k < xs.length) {x : R11} (hx : xs.getD k zRule = x) : aheadS xs (k + 1) = aheadS xs k ++ [x.s] := by
  unfold aheadS
  rw [takeRule xs k h, List.map_append, hx]; rfl

theorem takeSels_len (xs : List R11) (k : Nat) (h : k ≤ xs.length) : (aheadS xs k).length = k := by
  unfold aheadS
  rw [List.length_map, List.length_take]; omega

set_option maxRecDepth 20000 in
set_option maxHeartbeats 8000000 in
theorem implShadowedRules_ok (a : Option Addr) (n ca : Nat) (xs : List R11) (w : World) (ha : RdRule w a xs) (hn : xs.length = n) (hx : n ≤ maxLen) :
    Calls Tryd.prog 24 #[.slice a n ca] w fun e w' => ∃ (c : Option Addr) (d k : Nat), e = .returned (.agg #[.int .i64 (pyC xs), .slice c k d]) ∧ (srL xs).length = k ∧ Own .i64 2 w' w.heap.size c d (srL xs) ∧ Below w.heap.size w w' := by
  have CP := Hid.mk (fun w h => implPolicyFault_ok a n ca xs w h hn hx)
  have q0 := build_is0
  have q1 := build_is1
  rcases sr_ways xs with ⟨h1, h2, e1⟩ | ⟨h1, e1⟩
  · rw [e1]
    clear e1
    generalize pyC xs = kk at *
    go_enter Tryd.func24, Tryd.ntmps24
    have B := Below.refl w.heap.size w
    replace ha := ha.kept (belowA w (.cells #[.int .i64 0, .slice none 0 0] 50))
    replace B := thenB B (belowA w (.cells #[.int .i64 0, .slice none 0 0] 50))
    have VR := V.new w [.int .i64 0, .slice none 0 0] 50
    obtain ⟨s_VR, f_VR, z_VR⟩ := VR.open
    have Bo := B
    go_wp2_with fail
    refine (CP.out _ ha).mono ?_
    rintro e w1 ⟨rfl, b1⟩
    clear s_VR f_VR z_VR
    have S1 := b1.size
    simp only [World.size_alloc] at S1
    replace VR := VR.kept b1
    replace ha := ha.kept b1
    replace B := thenB B b1
    clear b1
    obtain ⟨s_VR, f_VR, z_VR⟩ := VR.open
    have Bo := B
    clear s_VR f_VR z_VR
    have VF := Hid.mk (VR.filled [.int .i64 kk, .slice none 0 0] rfl)
    have BR := belowCells B (show w.heap.size ≤ w.heap.size by (first | omega | (simp; done) | (simp; omega))) 0 [.int .i64 kk, .slice none 0 0]
    have HT := Hid.mk VR.there
    replace BR := Hid.mk BR
    obtain ⟨s_VR, f_VR, z_VR⟩ := VR.open
    go_wp2_with (refine wpList_store_mid rfl 50 _ _ rfl (w.heap.size) 0 #[.int .i64 kk, .slice none 0 0] rfl rfl HT.out (by kernel_rfl) (by kernel_rfl) ?_)
    refine bodyPost_ret (v := .agg #[.int .i64 kk, .slice none 0 0]) (results_row Tryd.results24 _ _ (w.heap.size) [.int .i64 kk, .slice none 0 0] _ rfl VF.out Tryd.underlying50 rfl (by kernel_rfl)) rfl ⟨none, 0, 0, rfl, rfl, own_none, BR.out⟩
  · rw [e1, h1]
    rw [h1] at CP
    have hx20 : n ≤ 20 := by have := (pyC_zero h1).1; omega
    have hz := (pyC_zero h1).2
    have hzs : ∀ x ∈ xs, sfC x.s = 0 := fun x hx => (ru_zero (hz x hx)).1
    replace hzs := Hid.mk hzs
    have HA := Hid.mk ha
    rw [hn]
    clear e1 h1 hz
    go_enter Tryd.func24, Tryd.ntmps24
    have B := Below.refl w.heap.size w
    replace ha := ha.kept (belowA w (.cells #[.int .i64 0, .slice none 0 0] 50))
    replace B := thenB B (belowA w (.cells #[.int .i64 0, .slice none 0 0] 50))
    have VR := V.new w [.int .i64 0, .slice none 0 0] 50
    obtain ⟨s_VR, f_VR, z_VR⟩ := VR.open
    have Bo := B
    go_wp2_with fail
    refine (CP.out _ ha).mono ?_
    rintro e w6 ⟨rfl, b6⟩
    clear s_VR f_VR z_VR
    have S6 := b6.size
    simp only [World.size_alloc] at S6
    replace VR := VR.kept b6
    replace ha := ha.kept b6
    replace B := thenB B b6
    clear b6
    obtain ⟨s_VR, f_VR, z_VR⟩ := VR.open
    have Bo := B
    clear s_VR f_VR z_VR
    replace VR := Hid.mk VR
    replace B := Hid.mk B
    clear Bo ha CP
    go_wp2
    go_loopw [4, 5, 16] (fun va vp i wr => ∃ (k d1 j d2 : Nat) (c1 c2 : Option Addr), k ≤ n ∧ i = .int .i64 k ∧ va = .slice c1 k d1 ∧ vp = .slice c2 j d2 ∧ (shI xs k).length = j ∧ OwnL wr (w.heap.size + 1) c1 d1 (aheadS xs k) ∧ Own .i64 2 wr (w.heap.size + 1) c2 d2 (shI xs k) ∧ Apart c1 c2 ∧ V wr w.heap.size [.int .i64 0, .slice none 0 0] ∧ Below w.heap.size w wr) (fun _ _ i _ => n - (intOf i).toNat)
    case atStart => exact ⟨0, 0, 0, 0, none, none, Nat.zero_le _, rfl, rfl, rfl, rfl, OwnL.none, own_none, Apart.none_l, VR.out, B.out⟩
    case round =>
      clear VR B
      obtain ⟨k, d1, j, d2, c1, c2, hk, rfl, rfl, rfl, hj, O1, O2, AP, VR, B⟩ := hrel
      by_cases hlt : k < n
      · obtain ⟨x, hx1⟩ : ∃ x, xs.getD k zRule = x := ⟨_, rfl⟩
        have hk1 : (k : Int) < (n : Int) := by omega
        have hjk := shI_len xs k
        have hsx : sfC x.s = 0 := hzs.out x (by rw [← hx1]; exact getDRule_mem (by omega))
        have han := any_within hzs.out hsx k
        have hat : shAt xs k = shP xs x.s k := by unfold shAt; rw [hx1]
        have htl := takeSels_len xs k (by omega)
        have hts := takeSels xs k (by omega) hx1
        rw [← hat] at han
        have CW := Hid.mk (fun w h => isWithinAny_ok x.s c1 k d1 (aheadS xs k) w h htl (by unfold maxLen; omega))
        rw [han] at CW
        have hb0 := HA.out.kept B
        rcases hb0 with h0 | ⟨b1, o1, rfl, hca⟩
        · rw [h0] at hn; simp at hn; omega
        obtain ⟨p0, p1, p2, p3, p4, p5, p6, p7, p8, p9, p10⟩ := RdRule.cells hca k (by omega) x hx1
        have hj20 : j ≤ 20 := by omega
        have HJ := Hid.mk hj
        have HTL := Hid.mk htl
        replace hts := Hid.mk hts
        have hVR := VR.1
        have hl1 := O1.lt
        have hl2 := O2.lt
        have F1 : ∀ b : Addr, c1 = some b → b.block ≠ wr.heap.size := fun b hb => by have := (hl1 b hb).2; omega
        have F2 : ∀ b : Addr, c2 = some b → b.block ≠ wr.heap.size := fun b hb => by have := (hl2 b hb).2; omega
        replace F1 := Hid.mk F1
        replace F2 := Hid.mk F2
        replace AP := Hid.mk AP
        clear hca hx1 han hat htl hj hl1 hl2 hsx
        replace VR := VR.kept (belowA wr (.cells #[.int .i64 x.s.a, .int .i64 x.s.b, .int .i64 x.s.c, .int .i64 x.s.d, .int .i64 x.s.e, .int .i64 x.s.f, .int .i64 x.s.g, .int .i64 x.s.h, .int .i64 x.s.r, .int .i64 x.p, .int .i64 x.q] 34))
        replace O1 := O1.kept (belowA wr (.cells #[.int .i64 x.s.a, .int .i64 x.s.b, .int .i64 x.s.c, .int .i64 x.s.d, .int .i64 x.s.e, .int .i64 x.s.f, .int .i64 x.s.g, .int .i64 x.s.h, .int .i64 x.s.r, .int .i64 x.p, .int .i64 x.q] 34))
        replace O2 := O2.kept (belowA wr (.cells #[.int .i64 x.s.a, .int .i64 x.s.b, .int .i64 x.s.c, .int .i64 x.s.d, .int .i64 x.s.e, .int .i64 x.s.f, .int .i64 x.s.g, .int .i64 x.s.h, .int .i64 x.s.r, .int .i64 x.p, .int .i64 x.q] 34))
        replace B := thenB B (belowA wr (.cells #[.int .i64 x.s.a, .int .i64 x.s.b, .int .i64 x.s.c, .int .i64 x.s.d, .int .i64 x.s.e, .int .i64 x.s.f, .int .i64 x.s.g, .int .i64 x.s.h, .int .i64 x.s.r, .int .i64 x.p, .int .i64 x.q] 34))
        have VX := V.new wr [.int .i64 x.s.a, .int .i64 x.s.b, .int .i64 x.s.c, .int .i64 x.s.d, .int .i64 x.s.e, .int .i64 x.s.f, .int .i64 x.s.g, .int .i64 x.s.h, .int .i64 x.s.r, .int .i64 x.p, .int .i64 x.q] 34
        obtain ⟨s_VR, f_VR, z_VR⟩ := VR.open
        obtain ⟨s_VX, f_VX, z_VX⟩ := VX.open
        have Bo := B
        go_wp2_with fail
        refine (CW.out _ O1.rd).mono ?_
        rintro e w41 ⟨rfl, b41⟩
        clear s_VR f_VR z_VR s_VX f_VX z_VX
        have S41 := b41.size
        simp only [World.size_alloc] at S41
        replace VR := VR.kept b41
        replace VX := VX.kept b41
        replace O1 := O1.kept b41
        replace O2 := O2.kept b41
        replace B := thenB B b41
        clear b41
        obtain ⟨s_VR, f_VR, z_VR⟩ := VR.open
        obtain ⟨s_VX, f_VX, z_VX⟩ := VX.open
        have Bo := B
        clear p0 p1 p2 p3 p4 p5 p6 p7 p8 p9 p10
        have hBs := B.size
        have hVR := VR.1
        have hVX := VX.1
        generalize hBx : wr.heap.size = Bx at *
        cases hg : shAt xs k
        · skip
          have hno := Hid.mk (shI_no hg)
          skip
          clear s_VR f_VR z_VR s_VX f_VX z_VX
          obtain ⟨s_VX, f_VX, z_VX⟩ := VX.open
          have OL := O1.kept (belowA w41 (.cells #[.int .i64 x.s.a, .int .i64 x.s.b, .int .i64 x.s.c, .int .i64 x.s.d, .int .i64 x.s.e, .int .i64 x.s.f, .int .i64 x.s.g, .int .i64 x.s.h, .int .i64 x.s.r] 32))
          have O2L := Hid.mk (O2.kept (belowA w41 (.cells #[.int .i64 x.s.a, .int .i64 x.s.b, .int .i64 x.s.c, .int .i64 x.s.d, .int .i64 x.s.e, .int .i64 x.s.f, .int .i64 x.s.g, .int .i64 x.s.h, .int .i64 x.s.r] 32)))
          have VRL := Hid.mk (VR.kept (belowA w41 (.cells #[.int .i64 x.s.a, .int .i64 x.s.b, .int .i64 x.s.c, .int .i64 x.s.d, .int .i64 x.s.e, .int .i64 x.s.f, .int .i64 x.s.g, .int .i64 x.s.h, .int .i64 x.s.r] 32)))
          have BL := thenB B (belowA w41 (.cells #[.int .i64 x.s.a, .int .i64 x.s.b, .int .i64 x.s.c, .int .i64 x.s.d, .int .i64 x.s.e, .int .i64 x.s.f, .int .i64 x.s.g, .int .i64 x.s.h, .int .i64 x.s.r] 32))
          have TL : w.heap.size + 1 ≤ (w41.alloc (.cells #[.int .i64 x.s.a, .int .i64 x.s.b, .int .i64 x.s.c, .int .i64 x.s.d, .int .i64 x.s.e, .int .i64 x.s.f, .int .i64 x.s.g, .int .i64 x.s.h, .int .i64 x.s.r] 32)).heap.size := by have := VRL.out.1; omega
          have OLT := OL.lt
          have O2T := O2L.out.lt
          replace BL := Hid.mk BL
          replace OLT := Hid.mk OLT
          replace O2T := Hid.mk O2T
          clear O1 O2 VR B Bo
          go_wp2_with (at_builtin; go_loud (refine wpList_putL _ rfl _ _ rfl (w.heap.size + 1) c1 d1 (aheadS xs k) k HTL.out rfl OL _ 1 x.s rfl (newCells _ _ (rowV x.s)) (by omega) TL ?_))
          intro c6 d6 w6 O6 hg6 hx6
          rw [← hts.out] at O6
          have O7 := O2L.out.grown hg6 AP.out.symm.row
          have AP7 := (Apart.put AP.out.symm (fun b hb => by have := (O2T.out b hb).2; simpa using this) hx6.out).symm
          have VR7 := VRL.out.grownR hg6 (far_row (fun b hb => (OLT.out b hb).1) (Nat.lt_succ_self _))
          have B7 := belowG BL.out hg6 (Nat.le_of_succ_le TL) (fun b hb => by have := (OLT.out b hb).1; omega)
          clear OL O2L VRL BL OLT O2T s_VX f_VX z_VX VX hg6 hx6
          replace O6 := Hid.mk O6
          replace O7 := Hid.mk O7
          replace AP7 := Hid.mk AP7
          replace VR7 := Hid.mk VR7
          replace B7 := Hid.mk B7
          go_wp2
          go_roundw
          case rel => exact ⟨k + 1, d6, j, d2, c6, c2, by omega, by go_num, rfl, rfl, by rw [hno.out]; exact HJ.out, O6.out, by rw [hno.out]; exact O7.out, AP7.out, VR7.out, B7.out⟩
          case measure => simp [intOf]; omega
        · skip
          clear s_VR f_VR z_VR s_VX f_VX z_VX
          have hyes := Hid.mk (shI_yes hg)
          obtain ⟨s_VX, f_VX, z_VX⟩ := VX.open
          have O2L := O2.kept (belowA w41 (.cells #[.int .i64 k] 2))
          have O1L := Hid.mk (O1.kept (belowA w41 (.cells #[.int .i64 k] 2)))
          have VRL := Hid.mk (VR.kept (belowA w41 (.cells #[.int .i64 k] 2)))
          have VXL := Hid.mk (VX.kept (belowA w41 (.cells #[.int .i64 k] 2)))
          have BL := Hid.mk (thenB B (belowA w41 (.cells #[.int .i64 k] 2)))
          have TL : w.heap.size + 1 ≤ (w41.alloc (.cells #[.int .i64 k] 2)).heap.size := by have := VRL.out.1; omega
          have OLT := Hid.mk O1L.out.lt
          have O2T := Hid.mk O2L.lt
          clear O1 O2 VR VX B Bo
          go_wp2_with (at_builtin; go_loud (refine wpList_putI _ rfl _ _ rfl (w.heap.size + 1) c2 d2 (shI xs k) j HJ.out rfl O2L _ 1 (k : Int) rfl (cell_one' _ _ _ 0 _ rfl) (by omega) TL ?_))
          intro c4 d4 w4 O4 hg4 hx4
          rw [← hyes.out] at O4
          have O1 := O1L.out.grown hg4 AP.out.row
          have AP4 := Hid.mk (Apart.put AP.out (fun b hb => by have := (OLT.out b hb).2; simpa using this) hx4.out)
          have VR := VRL.out.grownR hg4 (far_row (fun b hb => (O2T.out b hb).1) (Nat.lt_succ_self _))
          have VX := VXL.out.grownR hg4 (row_ne F2.out)
          have B := belowG BL.out hg4 (Nat.le_of_succ_le TL) (fun b hb => by have := (O2T.out b hb).1; omega)
          have hl4 : Hid ((shI xs (k + 1)).length = j + 1) := Hid.mk (by rw [hyes.out, List.length_append, HJ.out]; rfl)
          have Bo := B
          clear O2L O1L VRL VXL BL OLT O2T s_VX f_VX z_VX hg4 hx4 TL
          obtain ⟨s_VX, f_VX, z_VX⟩ := VX.open
          have OL := O1.kept (belowA w4 (.cells #[.int .i64 x.s.a, .int .i64 x.s.b, .int .i64 x.s.c, .int .i64 x.s.d, .int .i64 x.s.e, .int .i64 x.s.f, .int .i64 x.s.g, .int .i64 x.s.h, .int .i64 x.s.r] 32))
          have O2L := Hid.mk (O4.kept (belowA w4 (.cells #[.int .i64 x.s.a, .int .i64 x.s.b, .int .i64 x.s.c, .int .i64 x.s.d, .int .i64 x.s.e, .int .i64 x.s.f, .int .i64 x.s.g, .int .i64 x.s.h, .int .i64 x.s.r] 32)))
          have VRL := Hid.mk (VR.kept (belowA w4 (.cells #[.int .i64 x.s.a, .int .i64 x.s.b, .int .i64 x.s.c, .int .i64 x.s.d, .int .i64 x.s.e, .int .i64 x.s.f, .int .i64 x.s.g, .int .i64 x.s.h, .int .i64 x.s.r] 32)))
          have BL := thenB B (belowA w4 (.cells #[.int .i64 x.s.a, .int .i64 x.s.b, .int .i64 x.s.c, .int .i64 x.s.d, .int .i64 x.s.e, .int .i64 x.s.f, .int .i64 x.s.g, .int .i64 x.s.h, .int .i64 x.s.r] 32))
          have TL : w.heap.size + 1 ≤ (w4.alloc (.cells #[.int .i64 x.s.a, .int .i64 x.s.b, .int .i64 x.s.c, .int .i64 x.s.d, .int .i64 x.s.e, .int .i64 x.s.f, .int .i64 x.s.g, .int .i64 x.s.h, .int .i64 x.s.r] 32)).heap.size := by have := VRL.out.1; omega
          have OLT := OL.lt
          have O2T := O2L.out.lt
          replace BL := Hid.mk BL
          replace OLT := Hid.mk OLT
          replace O2T := Hid.mk O2T
          clear O1 O4 VR B Bo
          go_wp2_with (at_builtin; go_loud (refine wpList_putL _ rfl _ _ rfl (w.heap.size + 1) c1 d1 (aheadS xs k) k HTL.out rfl OL _ 1 x.s rfl (newCells _ _ (rowV x.s)) (by omega) TL ?_))
          intro c6 d6 w6 O6 hg6 hx6
          rw [← hts.out] at O6
          have O7 := O2L.out.grown hg6 AP4.out.symm.row
          have AP7 := (Apart.put AP4.out.symm (fun b hb => by have := (O2T.out b hb).2; simpa using this) hx6.out).symm
          have VR7 := VRL.out.grownR hg6 (far_row (fun b hb => (OLT.out b hb).1) (Nat.lt_succ_self _))
          have B7 := belowG BL.out hg6 (Nat.le_of_succ_le TL) (fun b hb => by have := (OLT.out b hb).1; omega)
          clear OL O2L VRL BL OLT O2T s_VX f_VX z_VX VX hg6 hx6
          replace O6 := Hid.mk O6
          replace O7 := Hid.mk O7
          replace AP7 := Hid.mk AP7
          replace VR7 := Hid.mk VR7
          replace B7 := Hid.mk B7
          go_wp2
          go_roundw
          case rel => exact ⟨k + 1, d6, j + 1, d4, c6, c4, by omega, by go_num, rfl, rfl, hl4.out, O6.out, O7.out, AP7.out, VR7.out, B7.out⟩
          case measure => simp [intOf]; omega
      · obtain rfl : k = n := by omega
        have HO := Hid.mk (O2.mono (show w.heap.size ≤ _ by omega))
        have HK := Hid.mk hj
        have HC := Hid.mk (fun b hb => (O2.lt b hb).1)
        clear O1 O2 hj AP
        obtain ⟨s_VR, f_VR, z_VR⟩ := VR.open
        have Bo := B
        clear s_VR f_VR z_VR
        have VF := Hid.mk (VR.filled [.int .i64 0, .slice c2 j d2] rfl)
        have BR := belowCells B (show w.heap.size ≤ w.heap.size by (first | omega | (simp; done) | (simp; omega))) 0 [.int .i64 0, .slice c2 j d2]
        have HT := Hid.mk VR.there
        replace BR := Hid.mk BR
        obtain ⟨s_VR, f_VR, z_VR⟩ := VR.open
        go_wp2_with (refine wpList_store_mid rfl 50 _ _ rfl (w.heap.size) 0 #[.int .i64 0, .slice c2 j d2] rfl rfl HT.out (by kernel_rfl) (by kernel_rfl) ?_)
        refine bodyPost_ret (v := .agg #[.int .i64 0, .slice c2 j d2]) (results_row Tryd.results24 _ _ (w.heap.size) [.int .i64 0, .slice c2 j d2] _ rfl VF.out Tryd.underlying50 rfl (by kernel_rfl)) rfl ⟨c2, d2, j, rfl, HK.out, ownCells HO.out (by intro b hb; have := HC.out b hb; omega) _ _, BR.out⟩

end Go.Proofs.YtngkahchhioncaaDoor

/- Rules change places: the model. -/
namespace Go.Proofs.YtngkahchhioncaaDoor
open Go.RowKit

theorem build_rs0 (k : Int) (w : World) : (Instr.build 45 #[(0, .int .i64 k)]).run Tryd.prog w = .ok (.agg #[.int .i64 k, .slice none 0 0]) w := run_build w 45 _ _ (by kernel_rfl)

theorem build_rs1 (a : Option Addr) (n c : Nat) (w : World) : (Instr.build 45 #[(1, .slice a n c)]).run Tryd.prog w = .ok (.agg #[.int .i64 0, .slice a n c]) w := run_build w 45 _ _ (by kernel_rfl)

theorem build_rsZ (w : World) : (Instr.build 45 #[]).run Tryd.prog w = .ok (.agg #[.int .i64 0, .slice none 0 0]) w := run_build w 45 _ _ (by kernel_rfl)

theorem fieldMeet (k : Value) (x : S9) (w : World) : (Instr.field 108 (.agg #[k, .int .i64 x.a, .int .i64 x.b, .int .i64 x.c, .int .i64 x.d, .int .i64 x.e, .int .i64 x.f, .int .i64 x.g, .int .i64 x.h, .int .i64 x.r]) 0).run Tryd.prog w = .ok k w := by kernel_rfl

/-- Two rules that follow on one another. -/
def swA (xs : List R11) (t : Int) : R11 := xs.getD t.toNat zRule
def swB (xs : List R11) (t : Int) : R11 := xs.getD (t.toNat + 1) zRule

/-- What 'SwapRules' answers. -/
@[irreducible] def swC (xs : List R11) (t : Int) : Int := if pyC xs = 0 then (if btw t 0 ((xs.length : Int) - 2) = true then (if mtC (swA xs t).s (swB xs t).s = 0 ∧ ((swA xs t).p ≠ (swB xs t).p ∨ (swA xs t).q ≠ (swB xs t).q) then 1 else 0) else 3) else pyC xs
@[irreducible] def swL (xs : List R11) (t : Int) : List R11 := if swC xs t = 0 then (xs.set t.toNat (swB xs t)).set (t.toNat + 1) (swA xs t) else []

theorem sw_ways (xs : List R11) (t : Int) :
    ((pyC xs != 0) = true ∧ pyC xs ≠ 0 ∧ swC xs t = pyC xs ∧ swL xs t = []) ∨
    (pyC xs = 0 ∧ btw t 0 ((xs.length : Int) - 2) = false ∧ swC xs t = 3 ∧ swL xs t = []) ∨
    ∃ k : Nat, t = (k : Int) ∧ k + 1 < xs.length ∧ pyC xs = 0 ∧ btw t 0 ((xs.length : Int) - 2) = true ∧
      ((mtC (xs.getD k zRule).s (xs.getD (k + 1) zRule).s = 0 ∧ ((xs.getD k zRule).p != (xs.getD (k + 1) zRule).p) = true ∧ swC xs t = 1 ∧ swL xs t = []) ∨
       (mtC (xs.getD k zRule).s (xs.getD (k + 1) zRule).s = 0 ∧ ((xs.getD k zRule).p != (xs.getD (k + 1) zRule).p) = false ∧ ((xs.getD k zRule).q != (xs.getD (k + 1) zRule).q) = true ∧ swC xs t = 1 ∧ swL xs t = []) ∨
       (mtC (xs.getD k zRule).s (xs.getD (k + 1) zRule).s = 0 ∧ ((xs.getD k zRule).p != (xs.getD (k + 1) zRule).p) = false ∧ ((xs.getD k zRule).q != (xs.getD (k + 1) zRule).q) = false ∧ swC xs t = 0 ∧ swL xs t = (xs.set k (xs.getD (k + 1) zRule)).set (k + 1) (xs.getD k zRule)) ∨
       ((mtC (xs.getD k zRule).s (xs.getD (k + 1) zRule).s == 0) = false ∧ swC xs t = 0 ∧ swL xs t = (xs.set k (xs.getD (k + 1) zRule)).set (k + 1) (xs.getD k zRule))) := by
  by_cases h1 : pyC xs = 0
  · cases h2 : btw t 0 ((xs.length : Int) - 2)
    · refine .inr (.inl ⟨h1, rfl, ?_, ?_⟩)
      · unfold swC; rw [if_pos h1, if_neg (by rw [h2]; simp)]
      · have e : swC xs t = 3 := by unfold swC; rw [if_pos h1, if_neg (by rw [h2]; simp)]
        unfold swL; rw [e]; rfl
    · have h3 := btw_iff.1 h2
      obtain ⟨k, rfl⟩ := Int.eq_ofNat_of_zero_le h3.1
      have hk : k + 1 < xs.length := by omega
      have e0 : swC xs (k : Int) = if mtC (xs.getD k zRule).s (xs.getD (k + 1) zRule).s = 0 ∧ ((xs.getD k zRule).p ≠ (xs.getD (k + 1) zRule).p ∨ (xs.getD k zRule).q ≠ (xs.getD (k + 1) zRule).q) then 1 else 0 := by
        unfold swC; rw [if_pos h1, if_pos h2]; rfl
      have e1 : swL xs (k : Int) = if swC xs (k : Int) = 0 then (xs.set k (xs.getD (k + 1) zRule)).set (k + 1) (xs.getD k zRule) else [] := by
        unfold swL; rfl
      refine .inr (.inr ⟨k, rfl, hk, h1, rfl, ?_⟩)
      by_cases h4 : mtC (xs.getD k zRule).s (xs.getD (k + 1) zRule).s = 0
      · by_cases h5 : (xs.getD k zRule).p = (xs.getD (k + 1) zRule).p
        · by_cases h6 : (xs.getD k zRule).q = (xs.getD (k + 1) zRule).q
          · have e : swC xs (k : Int) = 0 := by rw [e0, if_neg (by rintro ⟨_, h | h⟩; exact h h5; exact h h6)]
            exact .inr (.inr (.inl ⟨h4, by simp only [bne_eq_false_iff_eq]; exact h5, by simp only [bne_eq_false_iff_eq]; exact h6, e, by rw [e1, e]; rfl⟩))
          · have e : swC xs (k : Int) = 1 := by rw [e0, if_pos ⟨h4, .inr h6⟩]
            exact .inr (.inl ⟨h4, by simp only [bne_eq_false_iff_eq]; exact h5, bne_iff_ne.2 h6, e, by rw [e1, e]; rfl⟩)
        · have e : swC xs (k : Int) = 1 := by rw [e0, if_pos ⟨h4, .inl h5⟩]
          exact .inl ⟨h4, bne_iff_ne.2 h5, e, by rw [e1, e]; rfl⟩
      · have e : swC xs (k : Int) = 0 := by rw [e0, if_neg (fun h => h4 h.1)]
        exact .inr (.inr (.inr ⟨by simp only [beq_eq_false_iff_ne]; exact h4, e, by rw [e1, e]; rfl⟩))
  · have e : swC xs t = pyC xs := by unfold swC; rw [if_neg h1]
    exact .inl ⟨by simp [h1], h1, e, by unfold swL; rw [e, if_neg h1]⟩

set_option maxRecDepth 20000 in
set_option maxHeartbeats 2000000 in
theorem specSwapRules_ok (a : Option Addr) (n ca : Nat) (xs : List R11) (t : Int) (w : World) (ha : RdRule w a xs) (hn : xs.length = n) (hx : n ≤ maxLen) (ht : -9223372036854775808 ≤ t ∧ t ≤ 9223372036854775807) :
    Calls Tryd.prog 23 #[.slice a n ca, .int .i64 t] w fun e w' => ∃ (c : Option Addr) (d k : Nat), e = .returned (.agg #[.int .i64 (swC xs t), .slice c k d]) ∧ (swL xs t).length = k ∧ OwnRule w' w.heap.size c d (swL xs t) ∧ Below w.heap.size w w' := by
  have CP := Hid.mk (fun w h => specPolicyFault_ok a n ca xs w h hn hx)
  have q0 := build_rs0
  have q1 := build_rs1
  have q2 := fieldMeet
  obtain ⟨t1, t2⟩ := ht
  unfold maxLen at hx
  rcases sw_ways xs t with ⟨h1, _, e1, e2⟩ | ⟨h1, h2, e1, e2⟩ | ⟨k, rfl, hk, h1, h2, hw⟩
  · rw [e1, e2]
    clear e1 e2
    generalize pyC xs = kk at *
    go_enter Tryd.func23, Tryd.ntmps23
    have B := Below.refl w.heap.size w
    replace ha := ha.kept (belowA w (.cells #[.int .i64 0, .slice none 0 0] 45))
    replace B := thenB B (belowA w (.cells #[.int .i64 0, .slice none 0 0] 45))
    have VR := V.new w [.int .i64 0, .slice none 0 0] 45
    obtain ⟨s_VR, f_VR, z_VR⟩ := VR.open
    go_wp2_with fail
    refine (CP.out _ ha).mono ?_
    rintro e w1 ⟨rfl, b1⟩
    clear s_VR f_VR z_VR
    have S1 := b1.size
    simp only [World.size_alloc] at S1
    replace VR := VR.kept b1
    replace ha := ha.kept b1
    replace B := thenB B b1
    clear b1
    obtain ⟨s_VR, f_VR, z_VR⟩ := VR.open
    have Bo := B
    clear s_VR f_VR z_VR
    have VF := Hid.mk (VR.filled [.int .i64 kk, .slice none 0 0] rfl)
    have BR := belowCells B (show w.heap.size ≤ w.heap.size by (first | omega | (simp; done) | (simp; omega))) 0 [.int .i64 kk, .slice none 0 0]
    have HT := Hid.mk VR.there
    replace BR := Hid.mk BR
    obtain ⟨s_VR, f_VR, z_VR⟩ := VR.open
    go_wp2_with (refine wpList_store_mid rfl 45 _ _ rfl (w.heap.size) 0 #[.int .i64 kk, .slice none 0 0] rfl rfl HT.out (by kernel_rfl) (by kernel_rfl) ?_)
    refine bodyPost_ret (v := .agg #[.int .i64 kk, .slice none 0 0]) (results_row Tryd.results23 _ _ (w.heap.size) [.int .i64 kk, .slice none 0 0] _ rfl VF.out Tryd.underlying45 rfl (by kernel_rfl)) rfl ⟨none, 0, 0, rfl, rfl, OwnRule.none, BR.out⟩
  · rw [e1, e2]
    clear e1 e2
    rw [h1] at CP
    rw [hn] at h2
    go_enter Tryd.func23, Tryd.ntmps23
    have B := Below.refl w.heap.size w
    replace ha := ha.kept (belowA w (.cells #[.int .i64 0, .slice none 0 0] 45))
    replace B := thenB B (belowA w (.cells #[.int .i64 0, .slice none 0 0] 45))
    have VR := V.new w [.int .i64 0, .slice none 0 0] 45
    obtain ⟨s_VR, f_VR, z_VR⟩ := VR.open
    go_wp2_with fail
    refine (CP.out _ ha).mono ?_
    rintro e w6 ⟨rfl, b6⟩
    clear s_VR f_VR z_VR
    have S6 := b6.size
    simp only [World.size_alloc] at S6
    replace VR := VR.kept b6
    replace ha := ha.kept b6
    replace B := thenB B b6
    clear b6
    obtain ⟨s_VR, f_VR, z_VR⟩ := VR.open
    have Bo := B
    go_wp2_with fail
    refine (l1In_ok _ _ _ _).mono ?_
    rintro e wq ⟨rfl, rfl⟩
    rw [h2]
    clear s_VR f_VR z_VR
    have VF := Hid.mk (VR.filled [.int .i64 3, .slice none 0 0] rfl)
    have BR := belowCells B (show w.heap.size ≤ w.heap.size by (first | omega | (simp; done) | (simp; omega))) 0 [.int .i64 3, .slice none 0 0]
    have HT := Hid.mk VR.there
    replace BR := Hid.mk BR
    obtain ⟨s_VR, f_VR, z_VR⟩ := VR.open
    go_wp2_with (refine wpList_store_mid rfl 45 _ _ rfl (w.heap.size) 0 #[.int .i64 3, .slice none 0 0] rfl rfl HT.out (by kernel_rfl) (by kernel_rfl) ?_)
    refine bodyPost_ret (v := .agg #[.int .i64 3, .slice none 0 0]) (results_row Tryd.results23 _ _ (w.heap.size) [.int .i64 3, .slice none 0 0] _ rfl VF.out Tryd.underlying45 rfl (by kernel_rfl)) rfl ⟨none, 0, 0, rfl, rfl, OwnRule.none, BR.out⟩
  · have hx20 := (pyC_zero h1).1
    rw [h1] at CP
    rw [hn] at h2
    obtain ⟨x, hxx⟩ : ∃ x, xs.getD k zRule = x := ⟨_, rfl⟩
    obtain ⟨y, hyy⟩ : ∃ y, xs.getD (k + 1) zRule = y := ⟨_, rfl⟩
    rw [hxx, hyy] at hw
    obtain ⟨C, hC⟩ : ∃ C, swC xs (k : Int) = C := ⟨_, rfl⟩
    obtain ⟨Lz, hL⟩ : ∃ Lz, swL xs (k : Int) = Lz := ⟨_, rfl⟩
    rw [hC, hL] at hw ⊢
    clear hC hL
    have CM := Hid.mk (fun w => specMeetSels_ok x.s y.s w)
    have hk1 : (k : Int) < (n : Int) := by omega
    have hk2 : (k : Int) + 1 < (n : Int) := by omega
    have hk3 : (k : Int) + 1 ≤ 30 := by omega
    have hn0 : 0 < n := by omega
    go_enter Tryd.func23, Tryd.ntmps23
    have B := Below.refl w.heap.size w
    replace ha := ha.kept (belowA w (.cells #[.int .i64 0, .slice none 0 0] 45))
    replace B := thenB B (belowA w (.cells #[.int .i64 0, .slice none 0 0] 45))
    have VR := V.new w [.int .i64 0, .slice none 0 0] 45
    obtain ⟨s_VR, f_VR, z_VR⟩ := VR.open
    go_wp2_with fail
    refine (CP.out _ ha).mono ?_
    rintro e w11 ⟨rfl, b11⟩
    clear s_VR f_VR z_VR
    have S11 := b11.size
    simp only [World.size_alloc] at S11
    replace VR := VR.kept b11
    replace ha := ha.kept b11
    replace B := thenB B b11
    clear b11
    obtain ⟨s_VR, f_VR, z_VR⟩ := VR.open
    have Bo := B
    go_wp2_with fail
    refine (l1In_ok _ _ _ _).mono ?_
    rintro e wq ⟨rfl, rfl⟩
    rw [h2]
    clear s_VR f_VR z_VR
    rcases ha with h0 | ⟨b1, o1, rfl, hca⟩
    · rw [h0] at hn; simp at hn; omega
    obtain ⟨p0, p1, p2, p3, p4, p5, p6, p7, p8, p9, p10⟩ := RdRule.cells hca k (by omega) x hxx
    obtain ⟨q0', q1', q2', q3, q4, q5, q6, q7, q8, q9, q10⟩ := RdRule.cells hca (k + 1) (by omega) y hyy
    have hb1 := World.block_lt_of_cell? (a := ⟨b1, o1 + k * 11, none⟩) _ p0
    simp only at hb1
    have ha : RdRule wq (some ⟨b1, o1, none⟩) xs := .inr ⟨b1, o1, rfl, hca⟩
    clear hca
    replace VR := VR.kept (belowA wq (.cells #[.int .i64 x.s.a, .int .i64 x.s.b, .int .i64 x.s.c, .int .i64 x.s.d, .int .i64 x.s.e, .int .i64 x.s.f, .int .i64 x.s.g, .int .i64 x.s.h, .int .i64 x.s.r, .int .i64 x.p, .int .i64 x.q] 34))
    replace ha := ha.kept (belowA wq (.cells #[.int .i64 x.s.a, .int .i64 x.s.b, .int .i64 x.s.c, .int .i64 x.s.d, .int .i64 x.s.e, .int .i64 x.s.f, .int .i64 x.s.g, .int .i64 x.s.h, .int .i64 x.s.r, .int .i64 x.p, .int .i64 x.q] 34))
    replace B := thenB B (belowA wq (.cells #[.int .i64 x.s.a, .int .i64 x.s.b, .int .i64 x.s.c, .int .i64 x.s.d, .int .i64 x.s.e, .int .i64 x.s.f, .int .i64 x.s.g, .int .i64 x.s.h, .int .i64 x.s.r, .int .i64 x.p, .int .i64 x.q] 34))
    have VA := V.new wq [.int .i64 x.s.a, .int .i64 x.s.b, .int .i64 x.s.c, .int .i64 x.s.d, .int .i64 x.s.e, .int .i64 x.s.f, .int .i64 x.s.g, .int .i64 x.s.h, .int .i64 x.s.r, .int .i64 x.p, .int .i64 x.q] 34
    replace VR := VR.kept (belowA (wq.alloc (.cells #[.int .i64 x.s.a, .int .i64 x.s.b, .int .i64 x.s.c, .int .i64 x.s.d, .int .i64 x.s.e, .int .i64 x.s.f, .int .i64 x.s.g, .int .i64 x.s.h, .int .i64 x.s.r, .int .i64 x.p, .int .i64 x.q] 34)) (.cells #[.int .i64 y.s.a, .int .i64 y.s.b, .int .i64 y.s.c, .int .i64 y.s.d, .int .i64 y.s.e, .int .i64 y.s.f, .int .i64 y.s.g, .int .i64 y.s.h, .int .i64 y.s.r, .int .i64 y.p, .int .i64 y.q] 34))
    replace VA := VA.kept (belowA (wq.alloc (.cells #[.int .i64 x.s.a, .int .i64 x.s.b, .int .i64 x.s.c, .int .i64 x.s.d, .int .i64 x.s.e, .int .i64 x.s.f, .int .i64 x.s.g, .int .i64 x.s.h, .int .i64 x.s.r, .int .i64 x.p, .int .i64 x.q] 34)) (.cells #[.int .i64 y.s.a, .int .i64 y.s.b, .int .i64 y.s.c, .int .i64 y.s.d, .int .i64 y.s.e, .int .i64 y.s.f, .int .i64 y.s.g, .int .i64 y.s.h, .int .i64 y.s.r, .int .i64 y.p, .int .i64 y.q] 34))
    replace ha := ha.kept (belowA (wq.alloc (.cells #[.int .i64 x.s.a, .int .i64 x.s.b, .int .i64 x.s.c, .int .i64 x.s.d, .int .i64 x.s.e, .int .i64 x.s.f, .int .i64 x.s.g, .int .i64 x.s.h, .int .i64 x.s.r, .int .i64 x.p, .int .i64 x.q] 34)) (.cells #[.int .i64 y.s.a, .int .i64 y.s.b, .int .i64 y.s.c, .int .i64 y.s.d, .int .i64 y.s.e, .int .i64 y.s.f, .int .i64 y.s.g, .int .i64 y.s.h, .int .i64 y.s.r, .int .i64 y.p, .int .i64 y.q] 34))
    replace B := thenB B (belowA (wq.alloc (.cells #[.int .i64 x.s.a, .int .i64 x.s.b, .int .i64 x.s.c, .int .i64 x.s.d, .int .i64 x.s.e, .int .i64 x.s.f, .int .i64 x.s.g, .int .i64 x.s.h, .int .i64 x.s.r, .int .i64 x.p, .int .i64 x.q] 34)) (.cells #[.int .i64 y.s.a, .int .i64 y.s.b, .int .i64 y.s.c, .int .i64 y.s.d, .int .i64 y.s.e, .int .i64 y.s.f, .int .i64 y.s.g, .int .i64 y.s.h, .int .i64 y.s.r, .int .i64 y.p, .int .i64 y.q] 34))
    have VB : V ((wq.alloc (.cells #[.int .i64 x.s.a, .int .i64 x.s.b, .int .i64 x.s.c, .int .i64 x.s.d, .int .i64 x.s.e, .int .i64 x.s.f, .int .i64 x.s.g, .int .i64 x.s.h, .int .i64 x.s.r, .int .i64 x.p, .int .i64 x.q] 34)).alloc (.cells #[.int .i64 y.s.a, .int .i64 y.s.b, .int .i64 y.s.c, .int .i64 y.s.d, .int .i64 y.s.e, .int .i64 y.s.f, .int .i64 y.s.g, .int .i64 y.s.h, .int .i64 y.s.r, .int .i64 y.p, .int .i64 y.q] 34)) (wq.heap.size + 1) [.int .i64 y.s.a, .int .i64 y.s.b, .int .i64 y.s.c, .int .i64 y.s.d, .int .i64 y.s.e, .int .i64 y.s.f, .int .i64 y.s.g, .int .i64 y.s.h, .int .i64 y.s.r, .int .i64 y.p, .int .i64 y.q] := V.newAt _ _ _ _ (by simp)
    obtain ⟨s_VR, f_VR, z_VR⟩ := VR.open
    obtain ⟨s_VA, f_VA, z_VA⟩ := VA.open
    obtain ⟨s_VB, f_VB, z_VB⟩ := VB.open
    have Bo := B
    go_wp2_with fail
    refine (CM.out _).mono ?_
    rintro e w12 ⟨rfl, b12⟩
    clear s_VR f_VR z_VR s_VA f_VA z_VA s_VB f_VB z_VB
    have S12 := b12.size
    simp only [World.size_alloc] at S12
    replace VR := VR.kept b12
    replace VA := VA.kept b12
    replace VB := VB.kept b12
    replace ha := ha.kept b12
    replace B := thenB B b12
    clear b12
    obtain ⟨s_VR, f_VR, z_VR⟩ := VR.open
    obtain ⟨s_VA, f_VA, z_VA⟩ := VA.open
    obtain ⟨s_VB, f_VB, z_VB⟩ := VB.open
    have Bo := B
    clear p0 p1 p2 p3 p4 p5 p6 p7 p8 p9 p10 q0' q1' q2' q3 q4 q5 q6 q7 q8 q9 q10
    generalize mtS x.s y.s = z at *
    generalize mtC x.s y.s = mm at *
    rcases hw with ⟨rfl, h5, e1, e2⟩ | ⟨rfl, h5, h6, e1, e2⟩ | ⟨rfl, h5, h6, e1, e2⟩ | ⟨h4, e1, e2⟩
    · replace e1 := Hid.mk e1
      replace e2 := Hid.mk e2
      clear s_VR f_VR z_VR s_VA f_VA z_VA s_VB f_VB z_VB
      have VF := Hid.mk (VR.filled [.int .i64 1, .slice none 0 0] rfl)
      have BR := belowCells B (show w.heap.size ≤ w.heap.size by (first | omega | (simp; done) | (simp; omega))) 0 [.int .i64 1, .slice none 0 0]
      have HT := Hid.mk VR.there
      replace BR := Hid.mk BR
      obtain ⟨s_VR, f_VR, z_VR⟩ := VR.open
      obtain ⟨s_VA, f_VA, z_VA⟩ := VA.open
      obtain ⟨s_VB, f_VB, z_VB⟩ := VB.open
      go_wp2_with (refine wpList_store_mid rfl 45 _ _ rfl (w.heap.size) 0 #[.int .i64 1, .slice none 0 0] rfl rfl HT.out (by kernel_rfl) (by kernel_rfl) ?_)
      refine bodyPost_ret (v := .agg #[.int .i64 1, .slice none 0 0]) (results_row Tryd.results23 _ _ (w.heap.size) [.int .i64 1, .slice none 0 0] _ rfl VF.out Tryd.underlying45 rfl (by kernel_rfl)) rfl ⟨none, 0, 0, by rw [e1.out], by rw [e2.out]; rfl, by rw [e2.out]; exact OwnRule.none, BR.out⟩
    · replace e1 := Hid.mk e1
      replace e2 := Hid.mk e2
      clear s_VR f_VR z_VR s_VA f_VA z_VA s_VB f_VB z_VB
      have VF := Hid.mk (VR.filled [.int .i64 1, .slice none 0 0] rfl)
      have BR := belowCells B (show w.heap.size ≤ w.heap.size by (first | omega | (simp; done) | (simp; omega))) 0 [.int .i64 1, .slice none 0 0]
      have HT := Hid.mk VR.there
      replace BR := Hid.mk BR
      obtain ⟨s_VR, f_VR, z_VR⟩ := VR.open
      obtain ⟨s_VA, f_VA, z_VA⟩ := VA.open
      obtain ⟨s_VB, f_VB, z_VB⟩ := VB.open
      go_wp2_with (refine wpList_store_mid rfl 45 _ _ rfl (w.heap.size) 0 #[.int .i64 1, .slice none 0 0] rfl rfl HT.out (by kernel_rfl) (by kernel_rfl) ?_)
      refine bodyPost_ret (v := .agg #[.int .i64 1, .slice none 0 0]) (results_row Tryd.results23 _ _ (w.heap.size) [.int .i64 1, .slice none 0 0] _ rfl VF.out Tryd.underlying45 rfl (by kernel_rfl)) rfl ⟨none, 0, 0, by rw [e1.out], by rw [e2.out]; rfl, by rw [e2.out]; exact OwnRule.none, BR.out⟩
    · replace e1 := Hid.mk e1
      replace e2 := Hid.mk e2
      clear s_VR f_VR z_VR s_VA f_VA z_VA s_VB f_VB z_VB
      obtain ⟨s_VA, f_VA, z_VA⟩ := VA.open
      obtain ⟨s_VB, f_VB, z_VB⟩ := VB.open
      obtain ⟨s_VR, f_VR, z_VR⟩ := VR.open
      have hB3 := B.size
      have OL := OwnRule.lit w12 [] [] rfl (by decide)
      have ha' := ha.kept (belowA w12 (.cells #[] 34))
      have VA' := Hid.mk (VA.kept (belowA w12 (.cells #[] 34)))
      have VB' := Hid.mk (VB.kept (belowA w12 (.cells #[] 34)))
      have VR' := Hid.mk (VR.kept (belowA w12 (.cells #[] 34)))
      have B' := Hid.mk (thenB B (belowA w12 (.cells #[] 34)))
      clear B VA VB VR ha Bo
      have hA1 := VA'.out.1
      have hA2 := VB'.out.1
      have hA3 := VR'.out.1
      simp only [World.size_alloc] at hA1 hA2 hA3
      go_wp2_with (at_builtin; go_loud (refine wpList_putsRule _ rfl _ _ rfl w12.heap.size (some ⟨w12.heap.size, 0, none⟩) 0 [] 0 rfl rfl OL b1 o1 n ca xs rfl ha' hn hn0 (by omega) (by simp) ?_))
      intro c4 d4 w4 O4 hg4 hx4
      obtain ⟨c5, rfl, hc5, hc6⟩ := hx4.out
      (try simp only [Option.map_some] at hg4)
      have hc7 := (O4.lt _ rfl).1
      simp only at hc7
      clear s_VA f_VA z_VA s_VB f_VB z_VB s_VR f_VR z_VR
      have VA := VA'.out.grownR hg4 (by simp; omega)
      have VB := VB'.out.grownR hg4 (by simp; omega)
      have VR := VR'.out.grownR hg4 (by simp; omega)
      have B := B'.out.grown hg4 (by have := B'.out.size; omega) (by intro k hk; simp at hk; omega)
      clear VA' VB' VR' B' hg4 hx4 OL ha' hc5
      have HT1 := Hid.mk (O4.there k (by omega))
      generalize hK1 : k * 11 = K1 at *
      generalize hK2 : (k + 1) * 11 = K2 at *
      have O5 := O4.stroke k (by omega) y
      dsimp only [rowRule] at O5
      rw [hK1] at O5
      have hA : wq.heap.size ≠ c5 := by omega
      have hB : wq.heap.size + 1 ≠ c5 := by omega
      have hR : w.heap.size ≠ c5 := by omega
      have hwc : w.heap.size ≤ c5 := by have := B.size; omega
      have VA6 := VA.apart hA K1 [.int .i64 y.s.a, .int .i64 y.s.b, .int .i64 y.s.c, .int .i64 y.s.d, .int .i64 y.s.e, .int .i64 y.s.f, .int .i64 y.s.g, .int .i64 y.s.h, .int .i64 y.s.r, .int .i64 y.p, .int .i64 y.q]
      have VR6 := VR.apart hR K1 [.int .i64 y.s.a, .int .i64 y.s.b, .int .i64 y.s.c, .int .i64 y.s.d, .int .i64 y.s.e, .int .i64 y.s.f, .int .i64 y.s.g, .int .i64 y.s.h, .int .i64 y.s.r, .int .i64 y.p, .int .i64 y.q]
      have B6 := belowCells B hwc K1 [.int .i64 y.s.a, .int .i64 y.s.b, .int .i64 y.s.c, .int .i64 y.s.d, .int .i64 y.s.e, .int .i64 y.s.f, .int .i64 y.s.g, .int .i64 y.s.h, .int .i64 y.s.r, .int .i64 y.p, .int .i64 y.q]
      obtain ⟨w6, hw6⟩ : ∃ w6, w4.setCells c5 K1 [.int .i64 y.s.a, .int .i64 y.s.b, .int .i64 y.s.c, .int .i64 y.s.d, .int .i64 y.s.e, .int .i64 y.s.f, .int .i64 y.s.g, .int .i64 y.s.h, .int .i64 y.s.r, .int .i64 y.p, .int .i64 y.q] = w6 := ⟨_, rfl⟩
      rw [hw6] at O5 VA6 VR6 B6
      replace hw6 := Hid.mk hw6
      have HT2 := O5.there (k + 1) (by rw [List.length_set]; omega)
      rw [hK2] at HT2
      replace HT2 := Hid.mk HT2
      have O6 := O5.stroke (k + 1) (by rw [List.length_set]; omega) x
      dsimp only [rowRule] at O6
      rw [hK2] at O6
      have VR7 := VR6.apart hR K2 [.int .i64 x.s.a, .int .i64 x.s.b, .int .i64 x.s.c, .int .i64 x.s.d, .int .i64 x.s.e, .int .i64 x.s.f, .int .i64 x.s.g, .int .i64 x.s.h, .int .i64 x.s.r, .int .i64 x.p, .int .i64 x.q]
      have B7 := belowCells B6 hwc K2 [.int .i64 x.s.a, .int .i64 x.s.b, .int .i64 x.s.c, .int .i64 x.s.d, .int .i64 x.s.e, .int .i64 x.s.f, .int .i64 x.s.g, .int .i64 x.s.h, .int .i64 x.s.r, .int .i64 x.p, .int .i64 x.q]
      obtain ⟨w7, hw7⟩ : ∃ w7, w6.setCells c5 K2 [.int .i64 x.s.a, .int .i64 x.s.b, .int .i64 x.s.c, .int .i64 x.s.d, .int .i64 x.s.e, .int .i64 x.s.f, .int .i64 x.s.g, .int .i64 x.s.h, .int .i64 x.s.r, .int .i64 x.p, .int .i64 x.q] = w7 := ⟨_, rfl⟩
      rw [hw7] at O6 VR7 B7
      replace hw7 := Hid.mk hw7
      have HT3 := Hid.mk VR7.there
      have VF := VR7.filled [.int .i64 0, .slice (some ⟨c5, 0, none⟩) n d4] rfl
      have BR := belowCells B7 (show w.heap.size ≤ w.heap.size by omega) 0 [.int .i64 0, .slice (some ⟨c5, 0, none⟩) n d4]
      have O7 := OwnRule.mono (O6.apart (B := w.heap.size) (by intro b hb; simp at hb; subst hb; simp; omega) 0 [.int .i64 0, .slice (some ⟨c5, 0, none⟩) n d4]) (show w.heap.size ≤ _ by have := B.size; omega)
      obtain ⟨w8, hw8⟩ : ∃ w8, w7.setCells (w.heap.size) 0 [.int .i64 0, .slice (some ⟨c5, 0, none⟩) n d4] = w8 := ⟨_, rfl⟩
      rw [hw8] at VF BR O7
      replace hw8 := Hid.mk hw8
      replace VF := Hid.mk VF
      replace BR := Hid.mk BR
      replace O7 := Hid.mk O7
      clear O4 O5 O6 B B6 B7
      obtain ⟨s_VB, f_VB, z_VB⟩ := VB.open
      obtain ⟨s_VA6, f_VA6, z_VA6⟩ := VA6.open
      clear VA VB VR VA6 VR6 VR7
      go_upto_region 12 with (refine wpList_stroke w6 rfl 34 _ _ rfl c5 K1 #[.int .i64 y.s.a, .int .i64 y.s.b, .int .i64 y.s.c, .int .i64 y.s.d, .int .i64 y.s.e, .int .i64 y.s.f, .int .i64 y.s.g, .int .i64 y.s.h, .int .i64 y.s.r, .int .i64 y.p, .int .i64 y.q] rfl rfl HT1.out (by kernel_rfl) (by kernel_rfl) hw6.out ?_)
      go_upto_region 13 with (refine wpList_stroke w7 rfl 34 _ _ rfl c5 K2 #[.int .i64 x.s.a, .int .i64 x.s.b, .int .i64 x.s.c, .int .i64 x.s.d, .int .i64 x.s.e, .int .i64 x.s.f, .int .i64 x.s.g, .int .i64 x.s.h, .int .i64 x.s.r, .int .i64 x.p, .int .i64 x.q] rfl rfl HT2.out (by kernel_rfl) (by kernel_rfl) hw7.out ?_)
      go_wp2_with (refine wpList_stroke w8 rfl 45 _ _ rfl (w.heap.size) 0 #[.int .i64 0, .slice (some ⟨c5, 0, none⟩) n d4] rfl rfl HT3.out (by kernel_rfl) (by kernel_rfl) hw8.out ?_)
      refine bodyPost_ret (v := .agg #[.int .i64 0, .slice (some ⟨c5, 0, none⟩) n d4]) (results_row Tryd.results23 _ _ (w.heap.size) [.int .i64 0, .slice (some ⟨c5, 0, none⟩) n d4] _ rfl VF.out Tryd.underlying45 rfl (by kernel_rfl)) rfl ⟨some ⟨c5, 0, none⟩, d4, n, by rw [e1.out], by rw [e2.out]; simp [hn], by rw [e2.out]; exact O7.out, BR.out⟩
    · replace e1 := Hid.mk e1
      replace e2 := Hid.mk e2
      clear s_VR f_VR z_VR s_VA f_VA z_VA s_VB f_VB z_VB
      obtain ⟨s_VA, f_VA, z_VA⟩ := VA.open
      obtain ⟨s_VB, f_VB, z_VB⟩ := VB.open
      obtain ⟨s_VR, f_VR, z_VR⟩ := VR.open
      have hB3 := B.size
      have OL := OwnRule.lit w12 [] [] rfl (by decide)
      have ha' := ha.kept (belowA w12 (.cells #[] 34))
      have VA' := Hid.mk (VA.kept (belowA w12 (.cells #[] 34)))
      have VB' := Hid.mk (VB.kept (belowA w12 (.cells #[] 34)))
      have VR' := Hid.mk (VR.kept (belowA w12 (.cells #[] 34)))
      have B' := Hid.mk (thenB B (belowA w12 (.cells #[] 34)))
      clear B VA VB VR ha Bo
      have hA1 := VA'.out.1
      have hA2 := VB'.out.1
      have hA3 := VR'.out.1
      simp only [World.size_alloc] at hA1 hA2 hA3
      go_wp2_with (at_builtin; go_loud (refine wpList_putsRule _ rfl _ _ rfl w12.heap.size (some ⟨w12.heap.size, 0, none⟩) 0 [] 0 rfl rfl OL b1 o1 n ca xs rfl ha' hn hn0 (by omega) (by simp) ?_))
      intro c4 d4 w4 O4 hg4 hx4
      obtain ⟨c5, rfl, hc5, hc6⟩ := hx4.out
      (try simp only [Option.map_some] at hg4)
      have hc7 := (O4.lt _ rfl).1
      simp only at hc7
      clear s_VA f_VA z_VA s_VB f_VB z_VB s_VR f_VR z_VR
      have VA := VA'.out.grownR hg4 (by simp; omega)
      have VB := VB'.out.grownR hg4 (by simp; omega)
      have VR := VR'.out.grownR hg4 (by simp; omega)
      have B := B'.out.grown hg4 (by have := B'.out.size; omega) (by intro k hk; simp at hk; omega)
      clear VA' VB' VR' B' hg4 hx4 OL ha' hc5
      have HT1 := Hid.mk (O4.there k (by omega))
      generalize hK1 : k * 11 = K1 at *
      generalize hK2 : (k + 1) * 11 = K2 at *
      have O5 := O4.stroke k (by omega) y
      dsimp only [rowRule] at O5
      rw [hK1] at O5
      have hA : wq.heap.size ≠ c5 := by omega
      have hB : wq.heap.size + 1 ≠ c5 := by omega
      have hR : w.heap.size ≠ c5 := by omega
      have hwc : w.heap.size ≤ c5 := by have := B.size; omega
      have VA6 := VA.apart hA K1 [.int .i64 y.s.a, .int .i64 y.s.b, .int .i64 y.s.c, .int .i64 y.s.d, .int .i64 y.s.e, .int .i64 y.s.f, .int .i64 y.s.g, .int .i64 y.s.h, .int .i64 y.s.r, .int .i64 y.p, .int .i64 y.q]
      have VR6 := VR.apart hR K1 [.int .i64 y.s.a, .int .i64 y.s.b, .int .i64 y.s.c, .int .i64 y.s.d, .int .i64 y.s.e, .int .i64 y.s.f, .int .i64 y.s.g, .int .i64 y.s.h, .int .i64 y.s.r, .int .i64 y.p, .int .i64 y.q]
      have B6 := belowCells B hwc K1 [.int .i64 y.s.a, .int .i64 y.s.b, .int .i64 y.s.c, .int .i64 y.s.d, .int .i64 y.s.e, .int .i64 y.s.f, .int .i64 y.s.g, .int .i64 y.s.h, .int .i64 y.s.r, .int .i64 y.p, .int .i64 y.q]
      obtain ⟨w6, hw6⟩ : ∃ w6, w4.setCells c5 K1 [.int .i64 y.s.a, .int .i64 y.s.b, .int .i64 y.s.c, .int .i64 y.s.d, .int .i64 y.s.e, .int .i64 y.s.f, .int .i64 y.s.g, .int .i64 y.s.h, .int .i64 y.s.r, .int .i64 y.p, .int .i64 y.q] = w6 := ⟨_, rfl⟩
      rw [hw6] at O5 VA6 VR6 B6
      replace hw6 := Hid.mk hw6
      have HT2 := O5.there (k + 1) (by rw [List.length_set]; omega)
      rw [hK2] at HT2
      replace HT2 := Hid.mk HT2
      have O6 := O5.stroke (k + 1) (by rw [List.length_set]; omega) x
      dsimp only [rowRule] at O6
      rw [hK2] at O6
      have VR7 := VR6.apart hR K2 [.int .i64 x.s.a, .int .i64 x.s.b, .int .i64 x.s.c, .int .i64 x.s.d, .int .i64 x.s.e, .int .i64 x.s.f, .int .i64 x.s.g, .int .i64 x.s.h, .int .i64 x.s.r, .int .i64 x.p, .int .i64 x.q]
      have B7 := belowCells B6 hwc K2 [.int .i64 x.s.a, .int .i64 x.s.b, .int .i64 x.s.c, .int .i64 x.s.d, .int .i64 x.s.e, .int .i64 x.s.f, .int .i64 x.s.g, .int .i64 x.s.h, .int .i64 x.s.r, .int .i64 x.p, .int .i64 x.q]
      obtain ⟨w7, hw7⟩ : ∃ w7, w6.setCells c5 K2 [.int .i64 x.s.a, .int .i64 x.s.b, .int .i64 x.s.c, .int .i64 x.s.d, .int .i64 x.s.e, .int .i64 x.s.f, .int .i64 x.s.g, .int .i64 x.s.h, .int .i64 x.s.r, .int .i64 x.p, .int .i64 x.q] = w7 := ⟨_, rfl⟩
      rw [hw7] at O6 VR7 B7
      replace hw7 := Hid.mk hw7
      have HT3 := Hid.mk VR7.there
      have VF := VR7.filled [.int .i64 0, .slice (some ⟨c5, 0, none⟩) n d4] rfl
      have BR := belowCells B7 (show w.heap.size ≤ w.heap.size by omega) 0 [.int .i64 0, .slice (some ⟨c5, 0, none⟩) n d4]
      have O7 := OwnRule.mono (O6.apart (B := w.heap.size) (by intro b hb; simp at hb; subst hb; simp; omega) 0 [.int .i64 0, .slice (some ⟨c5, 0, none⟩) n d4]) (show w.heap.size ≤ _ by have := B.size; omega)
      obtain ⟨w8, hw8⟩ : ∃ w8, w7.setCells (w.heap.size) 0 [.int .i64 0, .slice (some ⟨c5, 0, none⟩) n d4] = w8 := ⟨_, rfl⟩
      rw [hw8] at VF BR O7
      replace hw8 := Hid.mk hw8
      replace VF := Hid.mk VF
      replace BR := Hid.mk BR
      replace O7 := Hid.mk O7
      clear O4 O5 O6 B B6 B7
      obtain ⟨s_VB, f_VB, z_VB⟩ := VB.open
      obtain ⟨s_VA6, f_VA6, z_VA6⟩ := VA6.open
      clear VA VB VR VA6 VR6 VR7
      go_upto_region 12 with (refine wpList_stroke w6 rfl 34 _ _ rfl c5 K1 #[.int .i64 y.s.a, .int .i64 y.s.b, .int .i64 y.s.c, .int .i64 y.s.d, .int .i64 y.s.e, .int .i64 y.s.f, .int .i64 y.s.g, .int .i64 y.s.h, .int .i64 y.s.r, .int .i64 y.p, .int .i64 y.q] rfl rfl HT1.out (by kernel_rfl) (by kernel_rfl) hw6.out ?_)
      go_upto_region 13 with (refine wpList_stroke w7 rfl 34 _ _ rfl c5 K2 #[.int .i64 x.s.a, .int .i64 x.s.b, .int .i64 x.s.c, .int .i64 x.s.d, .int .i64 x.s.e, .int .i64 x.s.f, .int .i64 x.s.g, .int .i64 x.s.h, .int .i64 x.s.r, .int .i64 x.p, .int .i64 x.q] rfl rfl HT2.out (by kernel_rfl) (by kernel_rfl) hw7.out ?_)
      go_wp2_with (refine wpList_stroke w8 rfl 45 _ _ rfl (w.heap.size) 0 #[.int .i64 0, .slice (some ⟨c5, 0, none⟩) n d4] rfl rfl HT3.out (by kernel_rfl) (by kernel_rfl) hw8.out ?_)
      refine bodyPost_ret (v := .agg #[.int .i64 0, .slice (some ⟨c5, 0, none⟩) n d4]) (results_row Tryd.results23 _ _ (w.heap.size) [.int .i64 0, .slice (some ⟨c5, 0, none⟩) n d4] _ rfl VF.out Tryd.underlying45 rfl (by kernel_rfl)) rfl ⟨some ⟨c5, 0, none⟩, d4, n, by rw [e1.out], by rw [e2.out]; simp [hn], by rw [e2.out]; exact O7.out, BR.out⟩

end Go.Proofs.YtngkahchhioncaaDoor

/- The laws' own helpers over 'Rule', by contract (written by gentype.py). -/
namespace Go.Proofs.YtngkahchhioncaaDoor
open Go.RowKit

theorem grownThenRule {w w1 : World} {row : Option Nat} (h : w.grownBy w1 row) {p : Addr} (hp : row = some p.block) (v : Value) : w.grownBy (w1.setCell p v) row :=
  grownBy_trans h ⟨rfl, rfl, rfl, by simp [World.setCell], fun k _ hk => Below.heap_setCell _ _ _ _ (fun e => hk (by rw [hp, e]))⟩

set_option maxHeartbeats 2000000 in
theorem toRule_ok (x : R11) (w : World) :
    Calls Tryd.prog 78 #[.agg #[.int .i64 x.s.a, .int .i64 x.s.b, .int .i64 x.s.c, .int .i64 x.s.d, .int .i64 x.s.e, .int .i64 x.s.f, .int .i64 x.s.g, .int .i64 x.s.h, .int .i64 x.s.r, .int .i64 x.p, .int .i64 x.q]] w fun e w' => e = .returned (.agg #[.int .i64 x.s.a, .int .i64 x.s.b, .int .i64 x.s.c, .int .i64 x.s.d, .int .i64 x.s.e, .int .i64 x.s.f, .int .i64 x.s.g, .int .i64 x.s.h, .int .i64 x.s.r, .int .i64 x.p, .int .i64 x.q]) ∧ Below w.heap.size w w' := by
  go_enter Tryd.func78, Tryd.ntmps78
  have B := Below.refl w.heap.size w
  replace B := thenB B (belowA w (.cells #[.int .i64 x.s.a, .int .i64 x.s.b, .int .i64 x.s.c, .int .i64 x.s.d, .int .i64 x.s.e, .int .i64 x.s.f, .int .i64 x.s.g, .int .i64 x.s.h, .int .i64 x.s.r, .int .i64 x.p, .int .i64 x.q] 117))
  have VX := V.new w [.int .i64 x.s.a, .int .i64 x.s.b, .int .i64 x.s.c, .int .i64 x.s.d, .int .i64 x.s.e, .int .i64 x.s.f, .int .i64 x.s.g, .int .i64 x.s.h, .int .i64 x.s.r, .int .i64 x.p, .int .i64 x.q] 117
  replace VX := VX.kept (belowA (w.alloc (.cells #[.int .i64 x.s.a, .int .i64 x.s.b, .int .i64 x.s.c, .int .i64 x.s.d, .int .i64 x.s.e, .int .i64 x.s.f, .int .i64 x.s.g, .int .i64 x.s.h, .int .i64 x.s.r, .int .i64 x.p, .int .i64 x.q] 117)) (.cells #[.int .i64 0, .int .i64 0, .int .i64 0, .int .i64 0, .int .i64 0, .int .i64 0, .int .i64 0, .int .i64 0, .int .i64 0, .int .i64 0, .int .i64 0] 34))
  replace B := thenB B (belowA (w.alloc (.cells #[.int .i64 x.s.a, .int .i64 x.s.b, .int .i64 x.s.c, .int .i64 x.s.d, .int .i64 x.s.e, .int .i64 x.s.f, .int .i64 x.s.g, .int .i64 x.s.h, .int .i64 x.s.r, .int .i64 x.p, .int .i64 x.q] 117)) (.cells #[.int .i64 0, .int .i64 0, .int .i64 0, .int .i64 0, .int .i64 0, .int .i64 0, .int .i64 0, .int .i64 0, .int .i64 0, .int .i64 0, .int .i64 0] 34))
  have VR : V ((w.alloc (.cells #[.int .i64 x.s.a, .int .i64 x.s.b, .int .i64 x.s.c, .int .i64 x.s.d, .int .i64 x.s.e, .int .i64 x.s.f, .int .i64 x.s.g, .int .i64 x.s.h, .int .i64 x.s.r, .int .i64 x.p, .int .i64 x.q] 117)).alloc (.cells #[.int .i64 0, .int .i64 0, .int .i64 0, .int .i64 0, .int .i64 0, .int .i64 0, .int .i64 0, .int .i64 0, .int .i64 0, .int .i64 0, .int .i64 0] 34)) (w.heap.size + 1) [.int .i64 0, .int .i64 0, .int .i64 0, .int .i64 0, .int .i64 0, .int .i64 0, .int .i64 0, .int .i64 0, .int .i64 0, .int .i64 0, .int .i64 0] := V.newAt _ _ _ _ (by simp)
  replace VX := VX.kept (belowA ((w.alloc (.cells #[.int .i64 x.s.a, .int .i64 x.s.b, .int .i64 x.s.c, .int .i64 x.s.d, .int .i64 x.s.e, .int .i64 x.s.f, .int .i64 x.s.g, .int .i64 x.s.h, .int .i64 x.s.r, .int .i64 x.p, .int .i64 x.q] 117)).alloc (.cells #[.int .i64 0, .int .i64 0, .int .i64 0, .int .i64 0, .int .i64 0, .int .i64 0, .int .i64 0, .int .i64 0, .int .i64 0, .int .i64 0, .int .i64 0] 34)) (.cells #[.int .i64 0, .int .i64 0, .int .i64 0, .int .i64 0, .int .i64 0, .int .i64 0, .int .i64 0, .int .i64 0, .int .i64 0, .int .i64 0, .int .i64 0] 34))
  replace VR := VR.kept (belowA ((w.alloc (.cells #[.int .i64 x.s.a, .int .i64 x.s.b, .int .i64 x.s.c, .int .i64 x.s.d, .int .i64 x.s.e, .int .i64 x.s.f, .int .i64 x.s.g, .int .i64 x.s.h, .int .i64 x.s.r, .int .i64 x.p, .int .i64 x.q] 117)).alloc (.cells #[.int .i64 0, .int .i64 0, .int .i64 0, .int .i64 0, .int .i64 0, .int .i64 0, .int .i64 0, .int .i64 0, .int .i64 0, .int .i64 0, .int .i64 0] 34)) (.cells #[.int .i64 0, .int .i64 0, .int .i64 0, .int .i64 0, .int .i64 0, .int .i64 0, .int .i64 0, .int .i64 0, .int .i64 0, .int .i64 0, .int .i64 0] 34))
  replace B := thenB B (belowA ((w.alloc (.cells #[.int .i64 x.s.a, .int .i64 x.s.b, .int .i64 x.s.c, .int .i64 x.s.d, .int .i64 x.s.e, .int .i64 x.s.f, .int .i64 x.s.g, .int .i64 x.s.h, .int .i64 x.s.r, .int .i64 x.p, .int .i64 x.q] 117)).alloc (.cells #[.int .i64 0, .int .i64 0, .int .i64 0, .int .i64 0, .int .i64 0, .int .i64 0, .int .i64 0, .int .i64 0, .int .i64 0, .int .i64 0, .int .i64 0] 34)) (.cells #[.int .i64 0, .int .i64 0, .int .i64 0, .int .i64 0, .int .i64 0, .int .i64 0, .int .i64 0, .int .i64 0, .int .i64 0, .int .i64 0, .int .i64 0] 34))
  have VO : V (((w.alloc (.cells #[.int .i64 x.s.a, .int .i64 x.s.b, .int .i64 x.s.c, .int .i64 x.s.d, .int .i64 x.s.e, .int .i64 x.s.f, .int .i64 x.s.g, .int .i64 x.s.h, .int .i64 x.s.r, .int .i64 x.p, .int .i64 x.q] 117)).alloc (.cells #[.int .i64 0, .int .i64 0, .int .i64 0, .int .i64 0, .int .i64 0, .int .i64 0, .int .i64 0, .int .i64 0, .int .i64 0, .int .i64 0, .int .i64 0] 34)).alloc (.cells #[.int .i64 0, .int .i64 0, .int .i64 0, .int .i64 0, .int .i64 0, .int .i64 0, .int .i64 0, .int .i64 0, .int .i64 0, .int .i64 0, .int .i64 0] 34)) (w.heap.size + 1 + 1) [.int .i64 0, .int .i64 0, .int .i64 0, .int .i64 0, .int .i64 0, .int .i64 0, .int .i64 0, .int .i64 0, .int .i64 0, .int .i64 0, .int .i64 0] := V.newAt _ _ _ _ (by simp)
  obtain ⟨s_VX, f_VX, z_VX⟩ := VX.open
  obtain ⟨s_VR, f_VR, z_VR⟩ := VR.open
  obtain ⟨s_VO, f_VO, z_VO⟩ := VO.open
  go_wp2_with fail
  refine (toSel_ok x.s _).mono ?_
  rintro e w1 ⟨rfl, b1⟩
  clear s_VX f_VX z_VX s_VR f_VR z_VR s_VO f_VO z_VO
  have S1 := b1.size
  simp only [World.size_alloc] at S1
  replace VX := VX.kept b1
  replace VR := VR.kept b1
  replace VO := VO.kept b1
  replace B := thenB B b1
  clear b1
  obtain ⟨s_VX, f_VX, z_VX⟩ := VX.open
  obtain ⟨s_VR, f_VR, z_VR⟩ := VR.open
  obtain ⟨s_VO, f_VO, z_VO⟩ := VO.open
  have Bo := B
  go_wp2
  refine bodyPost_ret (v := .agg #[.int .i64 x.s.a, .int .i64 x.s.b, .int .i64 x.s.c, .int .i64 x.s.d, .int .i64 x.s.e, .int .i64 x.s.f, .int .i64 x.s.g, .int .i64 x.s.h, .int .i64 x.s.r, .int .i64 x.p, .int .i64 x.q]) (by simp [results, Tryd.results78, go_sem, f_VR]) rfl ⟨rfl, ?_⟩
  repeat' first | with_reducible exact Bo | with_reducible refine Below.setCell ?_ ?_ _ | with_reducible refine Below.alloc ?_ ?_ _ | (simp; try omega)

set_option maxHeartbeats 2000000 in
theorem eqRule_ok (x : R11) (w : World) :
    Calls Tryd.prog 79 #[.agg #[.int .i64 x.s.a, .int .i64 x.s.b, .int .i64 x.s.c, .int .i64 x.s.d, .int .i64 x.s.e, .int .i64 x.s.f, .int .i64 x.s.g, .int .i64 x.s.h, .int .i64 x.s.r, .int .i64 x.p, .int .i64 x.q], .agg #[.int .i64 x.s.a, .int .i64 x.s.b, .int .i64 x.s.c, .int .i64 x.s.d, .int .i64 x.s.e, .int .i64 x.s.f, .int .i64 x.s.g, .int .i64 x.s.h, .int .i64 x.s.r, .int .i64 x.p, .int .i64 x.q]] w fun e w' => e = .returned (.bool true) ∧ Below w.heap.size w w' := by
  go_enter Tryd.func79, Tryd.ntmps79
  have B := Below.refl w.heap.size w
  replace B := thenB B (belowA w (.cells #[.int .i64 x.s.a, .int .i64 x.s.b, .int .i64 x.s.c, .int .i64 x.s.d, .int .i64 x.s.e, .int .i64 x.s.f, .int .i64 x.s.g, .int .i64 x.s.h, .int .i64 x.s.r, .int .i64 x.p, .int .i64 x.q] 34))
  have VX := V.new w [.int .i64 x.s.a, .int .i64 x.s.b, .int .i64 x.s.c, .int .i64 x.s.d, .int .i64 x.s.e, .int .i64 x.s.f, .int .i64 x.s.g, .int .i64 x.s.h, .int .i64 x.s.r, .int .i64 x.p, .int .i64 x.q] 34
  replace VX := VX.kept (belowA (w.alloc (.cells #[.int .i64 x.s.a, .int .i64 x.s.b, .int .i64 x.s.c, .int .i64 x.s.d, .int .i64 x.s.e, .int .i64 x.s.f, .int .i64 x.s.g, .int .i64 x.s.h, .int .i64 x.s.r, .int .i64 x.p, .int .i64 x.q] 34)) (.cells #[.int .i64 x.s.a, .int .i64 x.s.b, .int .i64 x.s.c, .int .i64 x.s.d, .int .i64 x.s.e, .int .i64 x.s.f, .int .i64 x.s.g, .int .i64 x.s.h, .int .i64 x.s.r, .int .i64 x.p, .int .i64 x.q] 34))
  replace B := thenB B (belowA (w.alloc (.cells #[.int .i64 x.s.a, .int .i64 x.s.b, .int .i64 x.s.c, .int .i64 x.s.d, .int .i64 x.s.e, .int .i64 x.s.f, .int .i64 x.s.g, .int .i64 x.s.h, .int .i64 x.s.r, .int .i64 x.p, .int .i64 x.q] 34)) (.cells #[.int .i64 x.s.a, .int .i64 x.s.b, .int .i64 x.s.c, .int .i64 x.s.d, .int .i64 x.s.e, .int .i64 x.s.f, .int .i64 x.s.g, .int .i64 x.s.h, .int .i64 x.s.r, .int .i64 x.p, .int .i64 x.q] 34))
  have VY : V ((w.alloc (.cells #[.int .i64 x.s.a, .int .i64 x.s.b, .int .i64 x.s.c, .int .i64 x.s.d, .int .i64 x.s.e, .int .i64 x.s.f, .int .i64 x.s.g, .int .i64 x.s.h, .int .i64 x.s.r, .int .i64 x.p, .int .i64 x.q] 34)).alloc (.cells #[.int .i64 x.s.a, .int .i64 x.s.b, .int .i64 x.s.c, .int .i64 x.s.d, .int .i64 x.s.e, .int .i64 x.s.f, .int .i64 x.s.g, .int .i64 x.s.h, .int .i64 x.s.r, .int .i64 x.p, .int .i64 x.q] 34)) (w.heap.size + 1) [.int .i64 x.s.a, .int .i64 x.s.b, .int .i64 x.s.c, .int .i64 x.s.d, .int .i64 x.s.e, .int .i64 x.s.f, .int .i64 x.s.g, .int .i64 x.s.h, .int .i64 x.s.r, .int .i64 x.p, .int .i64 x.q] := V.newAt _ _ _ _ (by simp)
  obtain ⟨s_VX, f_VX, z_VX⟩ := VX.open
  obtain ⟨s_VY, f_VY, z_VY⟩ := VY.open
  go_wp2_with fail
  refine (eqSel_ok x.s _).mono ?_
  rintro e w1 ⟨rfl, b1⟩
  clear s_VX f_VX z_VX s_VY f_VY z_VY
  have S1 := b1.size
  simp only [World.size_alloc] at S1
  replace VX := VX.kept b1
  replace VY := VY.kept b1
  replace B := thenB B b1
  clear b1
  obtain ⟨s_VX, f_VX, z_VX⟩ := VX.open
  obtain ⟨s_VY, f_VY, z_VY⟩ := VY.open
  have Bo := B
  go_wp2
  go_ret
  exact ⟨rfl, Bo⟩

set_option maxHeartbeats 400000 in
theorem szRuleS_in (a : Option Addr) (n ca : Nat) (left : Int) (w : World) (h : (n : Int) ≤ left) (hl : left ≤ 1048576) :
    Calls Tryd.prog 27 #[.slice a n ca, .int .i64 left] w fun e w' => e = .returned (.int .i64 (left - (n : Int))) ∧ w' = w := by
  have h0 : 0 ≤ left - (n : Int) := by omega
  go_enter Tryd.func27, Tryd.ntmps27
  go_wp2
  go_ret
  exact ⟨rfl, rfl⟩

set_option maxHeartbeats 400000 in
theorem szRuleS_out (a : Option Addr) (n ca : Nat) (left : Int) (w : World) (h : left < (n : Int)) (h0 : 0 ≤ left) (hl : left ≤ 1048576) (hx : n ≤ maxLen) :
    Calls Tryd.prog 27 #[.slice a n ca, .int .i64 left] w fun e w' => e = .returned (.int .i64 (-1)) ∧ w' = w := by
  unfold maxLen at hx
  have h1 : left - (n : Int) < 0 := by omega
  go_enter Tryd.func27, Tryd.ntmps27
  go_wp2
  go_ret
  exact ⟨rfl, rfl⟩

set_option maxHeartbeats 1000000 in
theorem eqRuleS_ok (a b : Option Addr) (n ca cb : Nat) (xs : List R11) (w : World) (ha : RdRule w a xs) (hb : RdRule w b xs) (hn : xs.length = n) (hx : n ≤ maxLen) :
    Calls Tryd.prog 30 #[.slice a n ca, .slice b n cb] w fun e w' => e = .returned (.bool true) ∧ Below w.heap.size w w' := by
  unfold maxLen at hx
  go_enter Tryd.func30, Tryd.ntmps30
  go_wp2
  go_loopw [5] (fun i wr => ∃ k : Nat, k ≤ n ∧ i = .int .i64 k ∧ Below w.heap.size w wr) (fun i _ => n - (intOf i).toNat)
  case atStart => exact ⟨0, Nat.zero_le _, rfl, Below.refl _ _⟩
  case round =>
    obtain ⟨k, hk, rfl, hbel⟩ := hrel
    by_cases hlt : k < n
    · replace ha := ha.kept hbel
      replace hb := hb.kept hbel
      rcases ha with ha | ⟨b1, o1, rfl, hca⟩
      · simp [ha] at hn; omega
      rcases hb with hb | ⟨b2, o2, rfl, hcb⟩
      · simp [hb] at hn; omega
      obtain ⟨x, hx1⟩ : ∃ x, xs.getD k zRule = x := ⟨_, rfl⟩
      have HA := RdRule.cells hca k (by omega) x hx1
      have HB := RdRule.cells hcb k (by omega) x hx1
      have hk1 : (k : Int) < (n : Int) := by omega
      clear hca hcb
      obtain ⟨p0, p1, p2, p3, p4, p5, p6, p7, p8, p9, p10⟩ := HA
      obtain ⟨q0, q1, q2, q3, q4, q5, q6, q7, q8, q9, q10⟩ := HB
      clear hx1
      replace hbel := Hid.mk hbel
      have K : ∀ w' : World, Below wr.heap.size wr w' → (w'.cell? ⟨b1, o1 + k * 11, none⟩ = some (.int .i64 x.s.a) ∧ w'.cell? ⟨b1, o1 + k * 11 + 1, none⟩ = some (.int .i64 x.s.b) ∧ w'.cell? ⟨b1, o1 + k * 11 + 2, none⟩ = some (.int .i64 x.s.c) ∧ w'.cell? ⟨b1, o1 + k * 11 + 3, none⟩ = some (.int .i64 x.s.d) ∧ w'.cell? ⟨b1, o1 + k * 11 + 4, none⟩ = some (.int .i64 x.s.e) ∧ w'.cell? ⟨b1, o1 + k * 11 + 5, none⟩ = some (.int .i64 x.s.f) ∧ w'.cell? ⟨b1, o1 + k * 11 + 6, none⟩ = some (.int .i64 x.s.g) ∧ w'.cell? ⟨b1, o1 + k * 11 + 7, none⟩ = some (.int .i64 x.s.h) ∧ w'.cell? ⟨b1, o1 + k * 11 + 8, none⟩ = some (.int .i64 x.s.r) ∧ w'.cell? ⟨b1, o1 + k * 11 + 9, none⟩ = some (.int .i64 x.p) ∧ w'.cell? ⟨b1, o1 + k * 11 + 10, none⟩ = some (.int .i64 x.q) ∧ w'.cell? ⟨b2, o2 + k * 11, none⟩ = some (.int .i64 x.s.a) ∧ w'.cell? ⟨b2, o2 + k * 11 + 1, none⟩ = some (.int .i64 x.s.b) ∧ w'.cell? ⟨b2, o2 + k * 11 + 2, none⟩ = some (.int .i64 x.s.c) ∧ w'.cell? ⟨b2, o2 + k * 11 + 3, none⟩ = some (.int .i64 x.s.d) ∧ w'.cell? ⟨b2, o2 + k * 11 + 4, none⟩ = some (.int .i64 x.s.e) ∧ w'.cell? ⟨b2, o2 + k * 11 + 5, none⟩ = some (.int .i64 x.s.f) ∧ w'.cell? ⟨b2, o2 + k * 11 + 6, none⟩ = some (.int .i64 x.s.g) ∧ w'.cell? ⟨b2, o2 + k * 11 + 7, none⟩ = some (.int .i64 x.s.h) ∧ w'.cell? ⟨b2, o2 + k * 11 + 8, none⟩ = some (.int .i64 x.s.r) ∧ w'.cell? ⟨b2, o2 + k * 11 + 9, none⟩ = some (.int .i64 x.p) ∧ w'.cell? ⟨b2, o2 + k * 11 + 10, none⟩ = some (.int .i64 x.q)) := fun w' h => ⟨(h.cell (p := ⟨b1, o1 + k * 11, none⟩) (World.block_lt_of_cell? (a := ⟨b1, o1 + k * 11, none⟩) wr p0)).trans p0, (h.cell (p := ⟨b1, o1 + k * 11 + 1, none⟩) (World.block_lt_of_cell? (a := ⟨b1, o1 + k * 11 + 1, none⟩) wr p1)).trans p1, (h.cell (p := ⟨b1, o1 + k * 11 + 2, none⟩) (World.block_lt_of_cell? (a := ⟨b1, o1 + k * 11 + 2, none⟩) wr p2)).trans p2, (h.cell (p := ⟨b1, o1 + k * 11 + 3, none⟩) (World.block_lt_of_cell? (a := ⟨b1, o1 + k * 11 + 3, none⟩) wr p3)).trans p3, (h.cell (p := ⟨b1, o1 + k * 11 + 4, none⟩) (World.block_lt_of_cell? (a := ⟨b1, o1 + k * 11 + 4, none⟩) wr p4)).trans p4, (h.cell (p := ⟨b1, o1 + k * 11 + 5, none⟩) (World.block_lt_of_cell? (a := ⟨b1, o1 + k * 11 + 5, none⟩) wr p5)).trans p5, (h.cell (p := ⟨b1, o1 + k * 11 + 6, none⟩) (World.block_lt_of_cell? (a := ⟨b1, o1 + k * 11 + 6, none⟩) wr p6)).trans p6, (h.cell (p := ⟨b1, o1 + k * 11 + 7, none⟩) (World.block_lt_of_cell? (a := ⟨b1, o1 + k * 11 + 7, none⟩) wr p7)).trans p7, (h.cell (p := ⟨b1, o1 + k * 11 + 8, none⟩) (World.block_lt_of_cell? (a := ⟨b1, o1 + k * 11 + 8, none⟩) wr p8)).trans p8, (h.cell (p := ⟨b1, o1 + k * 11 + 9, none⟩) (World.block_lt_of_cell? (a := ⟨b1, o1 + k * 11 + 9, none⟩) wr p9)).trans p9, (h.cell (p := ⟨b1, o1 + k * 11 + 10, none⟩) (World.block_lt_of_cell? (a := ⟨b1, o1 + k * 11 + 10, none⟩) wr p10)).trans p10, (h.cell (p := ⟨b2, o2 + k * 11, none⟩) (World.block_lt_of_cell? (a := ⟨b2, o2 + k * 11, none⟩) wr q0)).trans q0, (h.cell (p := ⟨b2, o2 + k * 11 + 1, none⟩) (World.block_lt_of_cell? (a := ⟨b2, o2 + k * 11 + 1, none⟩) wr q1)).trans q1, (h.cell (p := ⟨b2, o2 + k * 11 + 2, none⟩) (World.block_lt_of_cell? (a := ⟨b2, o2 + k * 11 + 2, none⟩) wr q2)).trans q2, (h.cell (p := ⟨b2, o2 + k * 11 + 3, none⟩) (World.block_lt_of_cell? (a := ⟨b2, o2 + k * 11 + 3, none⟩) wr q3)).trans q3, (h.cell (p := ⟨b2, o2 + k * 11 + 4, none⟩) (World.block_lt_of_cell? (a := ⟨b2, o2 + k * 11 + 4, none⟩) wr q4)).trans q4, (h.cell (p := ⟨b2, o2 + k * 11 + 5, none⟩) (World.block_lt_of_cell? (a := ⟨b2, o2 + k * 11 + 5, none⟩) wr q5)).trans q5, (h.cell (p := ⟨b2, o2 + k * 11 + 6, none⟩) (World.block_lt_of_cell? (a := ⟨b2, o2 + k * 11 + 6, none⟩) wr q6)).trans q6, (h.cell (p := ⟨b2, o2 + k * 11 + 7, none⟩) (World.block_lt_of_cell? (a := ⟨b2, o2 + k * 11 + 7, none⟩) wr q7)).trans q7, (h.cell (p := ⟨b2, o2 + k * 11 + 8, none⟩) (World.block_lt_of_cell? (a := ⟨b2, o2 + k * 11 + 8, none⟩) wr q8)).trans q8, (h.cell (p := ⟨b2, o2 + k * 11 + 9, none⟩) (World.block_lt_of_cell? (a := ⟨b2, o2 + k * 11 + 9, none⟩) wr q9)).trans q9, (h.cell (p := ⟨b2, o2 + k * 11 + 10, none⟩) (World.block_lt_of_cell? (a := ⟨b2, o2 + k * 11 + 10, none⟩) wr q10)).trans q10⟩
      have K := Hid.mk K
      go_wp2
      refine wp_region_held_drew (S := (fun w' => w'.cell? ⟨b1, o1 + k * 11, none⟩ = some (.int .i64 x.s.a) ∧ w'.cell? ⟨b1, o1 + k * 11 + 1, none⟩ = some (.int .i64 x.s.b) ∧ w'.cell? ⟨b1, o1 + k * 11 + 2, none⟩ = some (.int .i64 x.s.c) ∧ w'.cell? ⟨b1, o1 + k * 11 + 3, none⟩ = some (.int .i64 x.s.d) ∧ w'.cell? ⟨b1, o1 + k * 11 + 4, none⟩ = some (.int .i64 x.s.e) ∧ w'.cell? ⟨b1, o1 + k * 11 + 5, none⟩ = some (.int .i64 x.s.f) ∧ w'.cell? ⟨b1, o1 + k * 11 + 6, none⟩ = some (.int .i64 x.s.g) ∧ w'.cell? ⟨b1, o1 + k * 11 + 7, none⟩ = some (.int .i64 x.s.h) ∧ w'.cell? ⟨b1, o1 + k * 11 + 8, none⟩ = some (.int .i64 x.s.r) ∧ w'.cell? ⟨b1, o1 + k * 11 + 9, none⟩ = some (.int .i64 x.p) ∧ w'.cell? ⟨b1, o1 + k * 11 + 10, none⟩ = some (.int .i64 x.q) ∧ w'.cell? ⟨b2, o2 + k * 11, none⟩ = some (.int .i64 x.s.a) ∧ w'.cell? ⟨b2, o2 + k * 11 + 1, none⟩ = some (.int .i64 x.s.b) ∧ w'.cell? ⟨b2, o2 + k * 11 + 2, none⟩ = some (.int .i64 x.s.c) ∧ w'.cell? ⟨b2, o2 + k * 11 + 3, none⟩ = some (.int .i64 x.s.d) ∧ w'.cell? ⟨b2, o2 + k * 11 + 4, none⟩ = some (.int .i64 x.s.e) ∧ w'.cell? ⟨b2, o2 + k * 11 + 5, none⟩ = some (.int .i64 x.s.f) ∧ w'.cell? ⟨b2, o2 + k * 11 + 6, none⟩ = some (.int .i64 x.s.g) ∧ w'.cell? ⟨b2, o2 + k * 11 + 7, none⟩ = some (.int .i64 x.s.h) ∧ w'.cell? ⟨b2, o2 + k * 11 + 8, none⟩ = some (.int .i64 x.s.r) ∧ w'.cell? ⟨b2, o2 + k * 11 + 9, none⟩ = some (.int .i64 x.p) ∧ w'.cell? ⟨b2, o2 + k * 11 + 10, none⟩ = some (.int .i64 x.q))) (by kernel_rfl) (K.out _ (Below.refl _ _).drew) (fun hHeld => ?_)
      refine wpAnyH_take (i := 0) (oi := _) (v := ?veu1) rfl (by kernel_rfl) (by kernel_rfl) (by kernel_rfl) (fun _ _ _ h => h) (Or.inl ⟨by rfl, ?hyeu1⟩) hHeld ?resteu1
      case hyeu1 => (intro w hSw; (try dsimp only at hSw); go_simp; first | done | with_reducible rfl)
      try simp only [Act.put, List.getElem_toArray, List.getElem_cons_zero, List.setIfInBounds_toArray, List.set_cons_zero, List.set_cons_succ]
      refine wpAnyH_take (i := 1) (oi := _) (v := ?veu2) rfl (by kernel_rfl) (by kernel_rfl) (by kernel_rfl) (fun _ _ _ h => h) (Or.inl ⟨by rfl, ?hyeu2⟩) hHeld ?resteu2
      case hyeu2 => (intro w hSw; (try dsimp only at hSw); go_simp; first | done | with_reducible rfl)
      try simp only [Act.put, List.getElem_toArray, List.getElem_cons_zero, List.getElem_cons_succ, List.setIfInBounds_toArray, List.set_cons_zero, List.set_cons_succ]
      refine wpAnyH_take (i := 2) (oi := _) (v := ?veu3) rfl (by kernel_rfl) (by kernel_rfl) (by kernel_rfl) (fun _ _ _ h => h) (Or.inl ⟨by rfl, ?hyeu3⟩) hHeld ?resteu3
      case hyeu3 => (intro w hSw; (try dsimp only at hSw); go_simp; first | done | with_reducible rfl)
      try simp only [Act.put, List.getElem_toArray, List.getElem_cons_zero, List.getElem_cons_succ, List.setIfInBounds_toArray, List.set_cons_zero, List.set_cons_succ]
      refine wpAnyH_take (i := 3) (oi := _) (v := ?veu4) rfl (by kernel_rfl) (by kernel_rfl) (by kernel_rfl) (fun _ _ _ h => h) (Or.inl ⟨by rfl, ?hyeu4⟩) hHeld ?resteu4
      case hyeu4 => (intro w hSw; (try dsimp only at hSw); go_simp; first | done | with_reducible rfl)
      try simp only [Act.put, List.getElem_toArray, List.getElem_cons_zero, List.getElem_cons_succ, List.setIfInBounds_toArray, List.set_cons_zero, List.set_cons_succ]
      refine wpAnyH_take (i := 4) (oi := _) (v := ?veu5) rfl (by kernel_rfl) (by kernel_rfl) (by kernel_rfl) (fun _ _ _ h => h) (Or.inl ⟨by rfl, ?hyeu5⟩) hHeld ?resteu5
      case hyeu5 => (intro w hSw; (try dsimp only at hSw); go_simp; first | done | with_reducible rfl)
      try simp only [Act.put, List.getElem_toArray, List.getElem_cons_zero, List.getElem_cons_succ, List.setIfInBounds_toArray, List.set_cons_zero, List.set_cons_succ]
      refine wpAnyH_take (i := 5) (oi := _) (v := ?veu6) rfl (by kernel_rfl) (by kernel_rfl) (by kernel_rfl) (fun _ _ _ h => h) (Or.inl ⟨by rfl, ?hyeu6⟩) hHeld ?resteu6
      case hyeu6 => (intro w hSw; (try dsimp only at hSw); go_simp; first | done | with_reducible rfl)
      try simp only [Act.put, List.getElem_toArray, List.getElem_cons_zero, List.getElem_cons_succ, List.setIfInBounds_toArray, List.set_cons_zero, List.set_cons_succ]
      refine wpAnyH_take (i := 6) (oi := _) (v := ?veu7) rfl (by kernel_rfl) (by kernel_rfl) (by kernel_rfl) (fun _ _ _ h => h) (Or.inl ⟨by rfl, ?hyeu7⟩) hHeld ?resteu7
      case hyeu7 => (intro w hSw; (try dsimp only at hSw); go_simp; first | done | with_reducible rfl)
      try simp only [Act.put, List.getElem_toArray, List.getElem_cons_zero, List.getElem_cons_succ, List.setIfInBounds_toArray, List.set_cons_zero, List.set_cons_succ]
      refine wpAnyH_take (i := 7) (oi := _) (v := ?veu8) rfl (by kernel_rfl) (by kernel_rfl) (by kernel_rfl) (fun _ _ _ h => h) (Or.inl ⟨by rfl, ?hyeu8⟩) hHeld ?resteu8
      case hyeu8 => (intro w hSw; (try dsimp only at hSw); go_simp; first | done | with_reducible rfl)
      try simp only [Act.put, List.getElem_toArray, List.getElem_cons_zero, List.getElem_cons_succ, List.setIfInBounds_toArray, List.set_cons_zero, List.set_cons_succ]
      refine wpAnyH_ready (rs := [8]) (by kernel_rfl) (by simp) ?_
      refine AllReadyH.cons (o := _) rfl (fun K0 hK0 => ?_) AllReadyH.nil
      go_simp
      go_at_call 79
      refine (eqRule_ok x _).mono ?_
      rintro e wev9 ⟨rfl, bev9⟩
      refine hK0.out _ _ (K.out _ (thenB (Below.refl _ _).drew bev9)) (fun hHeld => ?_)
      clear hK0 K0
      try simp only [Act.put, List.getElem_toArray, List.getElem_cons_zero, List.getElem_cons_succ, List.setIfInBounds_toArray, List.set_cons_zero, List.set_cons_succ]
      refine wpAnyH_take (i := 9) (oi := _) (v := ?veu10) rfl (by kernel_rfl) (by kernel_rfl) (by kernel_rfl) (fun _ _ _ h => h) (Or.inl ⟨by rfl, ?hyeu10⟩) hHeld ?resteu10
      case hyeu10 => (intro w hSw; (try dsimp only at hSw); go_simp; first | done | with_reducible rfl)
      try simp only [Act.put, List.getElem_toArray, List.getElem_cons_zero, List.getElem_cons_succ, List.setIfInBounds_toArray, List.set_cons_zero, List.set_cons_succ]
      refine wpAnyH_done (by kernel_rfl) ?_ _
      have BX := thenB hbel.out (thenB (Below.refl _ _).drew bev9)
      go_wp2
      go_roundw
      case rel => exact ⟨k + 1, by omega, by go_num, BX⟩
      case measure => simp [intOf]; omega
    · have hkn : k = n := by omega
      subst hkn
      go_wp2
      go_ret
      exact ⟨rfl, hbel⟩

set_option maxHeartbeats 1000000 in
theorem toRuleS_ok (a : Option Addr) (n ca : Nat) (xs : List R11) (w : World) (ha : RdRule w a xs) (hn : xs.length = n) (hx : n ≤ 1048576) :
    Calls Tryd.prog 29 #[.slice a n ca] w fun e w' => e = .returned (.slice (some ⟨w.heap.size, 0, none⟩) n n) ∧ OwnRule w' w.heap.size (some ⟨w.heap.size, 0, none⟩) n xs ∧ Below w.heap.size w w' := by
  obtain ⟨i0, hi, hz0, hz1, hz2⟩ := info_parts Tryd.infoRule
  go_enter Tryd.func29, Tryd.ntmps29
  go_wp2_with (at_make; refine wpList_make_full _ rfl _ _ 24 rfl w.heap.size 34 i0 (.agg #[.int .i64 0, .int .i64 0, .int .i64 0, .int .i64 0, .int .i64 0, .int .i64 0, .int .i64 0, .int .i64 0, .int .i64 0, .int .i64 0, .int .i64 0]) 11 Tryd.underlying24 hi hz0 hz1 .i64 .i64 _ _ n rfl rfl rfl rfl (by rw [hz2]; omega) (by unfold maxLen; omega) (Nat.le_refl _) ?_)
  intro w1 hown hgrow
  have hown0 : w1.ownsRow w.heap.size 34 11 (.slice (some ⟨w.heap.size, 0, none⟩) n n) n (flatRule (fillRule xs 0 n)) := by
    rw [fillRule_zero, zerosRule, ← madeRule]
    exact hown
  have hbel : Below w.heap.size w w1 := (Below.refl _ _).grown hgrow (Nat.le_refl _) (by intro k hk; cases hk)
  clear hown hgrow
  go_wp2
  go_loopw [4] (fun i wr => ∃ k : Nat, k ≤ n ∧ i = .int .i64 k ∧ wr.ownsRow w.heap.size 34 11 (.slice (some ⟨w.heap.size, 0, none⟩) n n) n (flatRule (fillRule xs k n)) ∧ Below w.heap.size w wr) (fun i _ => n - (intOf i).toNat)
  case atStart => exact ⟨0, Nat.zero_le _, rfl, hown0, hbel⟩
  case round =>
    obtain ⟨k, hk, rfl, hown, hb⟩ := hrel
    by_cases hlt : k < n
    · replace ha := ha.kept hb
      rcases ha with ha | ⟨b1, o1, rfl, hca⟩
      · simp [ha] at hn; omega
      obtain ⟨x, hx1⟩ : ∃ x, xs.getD k zRule = x := ⟨_, rfl⟩
      obtain ⟨p0, p1, p2, p3, p4, p5, p6, p7, p8, p9, p10⟩ := RdRule.cells hca k (by omega) x hx1
      have hk1 : (k : Int) < (n : Int) := by omega
      have hfl : (fillRule xs k n).length = n := fillRule_len xs k n hn hk
      have hf0 := fillRule_at xs k n hn hlt
      have hfs := fillRule_set xs k n hn hlt
      rw [hx1] at hfs
      have HB := Hid.mk hb
      have HO := Hid.mk hown
      have HS : Hid (setRule (flatRule (fillRule xs k n)) (k * 11) x = flatRule (fillRule xs (k + 1) n)) := Hid.mk (by rw [← hfs]; exact setRule_flat _ _ _ (by omega))
      clear hca hown hb hx1 hfs
      go_wp2_with fail
      refine (toRule_ok x _).mono ?_
      rintro e w2 ⟨rfl, b2⟩
      have hown2 : w2.ownsRow w.heap.size 34 11 (.slice (some ⟨w.heap.size, 0, none⟩) n n) n (flatRule (fillRule xs k n)) := World.ownsRow.kept HO.out (Below.grownBy b2 none) (.inr (by simp [Value.ownBlock]))
      have B2 := Hid.mk (HB.out.trans (b2.mono HB.out.size))
      have zF := fun o => hown2.frozenAt o
      have cF : ∀ j, j < 11 → w2.cell? ⟨w.heap.size, k * 11 + j, none⟩ = some (.int .i64 0) := fun j hj => by
        rw [hown2.cellAt (k * 11 + j) (by omega), flatRule_at _ k j (by omega) hj, hf0]
        match j, hj with
        | 0, _ => rfl
        | 1, _ => rfl
        | 2, _ => rfl
        | 3, _ => rfl
        | 4, _ => rfl
        | 5, _ => rfl
        | 6, _ => rfl
        | 7, _ => rfl
        | 8, _ => rfl
        | 9, _ => rfl
        | 10, _ => rfl
      have c0 := cF 0 (by decide)
      have c1 := cF 1 (by decide)
      have c2 := cF 2 (by decide)
      have c3 := cF 3 (by decide)
      have c4 := cF 4 (by decide)
      have c5 := cF 5 (by decide)
      have c6 := cF 6 (by decide)
      have c7 := cF 7 (by decide)
      have c8 := cF 8 (by decide)
      have c9 := cF 9 (by decide)
      have c10 := cF 10 (by decide)
      simp only [Nat.add_zero] at c0
      have HN := Hid.mk (HS.out ▸ storedRule hown2 k x)
      clear cF hown2 b2 hf0 hfl p0 p1 p2 p3 p4 p5 p6 p7 p8 p9 p10
      go_wp2
      go_roundw
      case rel => exact ⟨k + 1, by omega, by go_num, HN.out, (((((((((((B2.out.setCell (Nat.le_refl _) _).setCell (Nat.le_refl _) _).setCell (Nat.le_refl _) _).setCell (Nat.le_refl _) _).setCell (Nat.le_refl _) _).setCell (Nat.le_refl _) _).setCell (Nat.le_refl _) _).setCell (Nat.le_refl _) _).setCell (Nat.le_refl _) _).setCell (Nat.le_refl _) _).setCell (Nat.le_refl _) _)⟩
      case measure => simp [intOf]; omega
    · have hkn : k = n := by omega
      subst hkn
      rw [fillRule_all xs k hn] at hown
      have HO := Hid.mk hown
      clear hown
      go_wp2
      go_ret
      exact ⟨rfl, by unfold OwnRule; rw [hn]; exact HO.out, hb⟩

set_option maxRecDepth 20000 in
set_option maxHeartbeats 4000000 in
theorem markRuleS_ok (a : Option Addr) (n ca base : Nat) (xs : List R11) (q : Int) (w : World) (ha : OwnRule w base a ca xs) (hn : xs.length = n) (h0 : 0 ≤ q) (hx : q + 11 * (n : Int) ≤ 1099511627776) :
    Calls Tryd.prog 39 #[.slice a n ca, .int .i64 q] w fun e w' => e = .returned (.int .i64 (q + 11 * (n : Int))) ∧ OwnRule w' base a ca (marksRule q n) ∧ w.grownBy w' (a.map Addr.block) := by
  go_enter Tryd.func39, Tryd.ntmps39
  go_wp2
  go_loopw [1, 5] (fun p i wr => ∃ k : Nat, k ≤ n ∧ i = .int .i64 k ∧ p = .int .i64 (q + 11 * (k : Int)) ∧ OwnRule wr base a ca (mfillRule q k xs) ∧ w.grownBy wr (a.map Addr.block)) (fun _ i _ => n - (intOf i).toNat)
  case atStart => exact ⟨0, Nat.zero_le _, rfl, by simp, by rw [mfillRule_zero]; exact ha, World.grownBy.refl _ _⟩
  case round =>
    clear ha
    obtain ⟨k, hk, rfl, rfl, O, B⟩ := hrel
    by_cases hlt : k < n
    · obtain ⟨p, hp⟩ : ∃ p, q + 11 * (k : Int) = p := ⟨_, rfl⟩
      have hp0 : 0 ≤ p := by omega
      have hp1 : p + 11 ≤ 1099511627776 := by omega
      have hl := mfillRule_len q k xs n hn hk
      have hset := mfillRule_set q k xs (by omega)
      rw [hp] at hset ⊢
      have hO := O
      unfold OwnRule at hO
      rw [hl] at hO
      obtain ⟨g, cap, hv, hgb, hgl⟩ := World.ownsRow.form hO (by omega)
      simp only [Value.slice.injEq, true_and] at hv
      obtain ⟨rfl, rfl⟩ := hv
      obtain ⟨x, hx1⟩ : ∃ x, (mfillRule q k xs).getD k zRule = x := ⟨_, rfl⟩
      have HS : Hid (setRule (flatRule (mfillRule q k xs)) (k * 11) (mRule p) = flatRule (mfillRule q (k + 1) xs)) := Hid.mk (by rw [← hset]; exact setRule_flat _ _ _ (by omega))
      have zF := fun o => hO.frozenAt o
      have cF : ∀ j, j < 11 → wr.cell? ⟨g, k * 11 + j, none⟩ = (rowRule x)[j]? := fun j hj => by
        rw [hO.cellAt (k * 11 + j) (by omega), flatRule_at _ k j (by omega) hj, hx1]
      have hk1 : (k : Int) < (n : Int) := by omega
      have c0 : wr.cell? ⟨g, k * 11, none⟩ = some (.int .i64 x.s.a) := cF 0 (by decide)
      have c1 : wr.cell? ⟨g, k * 11 + 1, none⟩ = some (.int .i64 x.s.b) := cF 1 (by decide)
      have c2 : wr.cell? ⟨g, k * 11 + 2, none⟩ = some (.int .i64 x.s.c) := cF 2 (by decide)
      have c3 : wr.cell? ⟨g, k * 11 + 3, none⟩ = some (.int .i64 x.s.d) := cF 3 (by decide)
      have c4 : wr.cell? ⟨g, k * 11 + 4, none⟩ = some (.int .i64 x.s.e) := cF 4 (by decide)
      have c5 : wr.cell? ⟨g, k * 11 + 5, none⟩ = some (.int .i64 x.s.f) := cF 5 (by decide)
      have c6 : wr.cell? ⟨g, k * 11 + 6, none⟩ = some (.int .i64 x.s.g) := cF 6 (by decide)
      have c7 : wr.cell? ⟨g, k * 11 + 7, none⟩ = some (.int .i64 x.s.h) := cF 7 (by decide)
      have c8 : wr.cell? ⟨g, k * 11 + 8, none⟩ = some (.int .i64 x.s.r) := cF 8 (by decide)
      have c9 : wr.cell? ⟨g, k * 11 + 9, none⟩ = some (.int .i64 x.p) := cF 9 (by decide)
      have c10 : wr.cell? ⟨g, k * 11 + 10, none⟩ = some (.int .i64 x.q) := cF 10 (by decide)
      have HN := storedRule hO k (mRule p)
      rw [HS.out] at HN
      dsimp only [mRule] at HN
      have hl1 := mfillRule_len q (k + 1) xs n hn (by omega)
      replace HN := Hid.mk HN
      replace hl1 := Hid.mk hl1
      replace B := Hid.mk B
      have HP := Hid.mk hp
      clear cF O hO hset hl hx1 HS hp
      go_wp2
      go_roundw
      case rel =>
        refine ⟨k + 1, by omega, by go_num, ?_, ?_, ?_⟩
        · have h := HP.out
          go_num
        · unfold OwnRule
          rw [hl1.out]
          exact HN.out
        · replace B := B.out
          clear HN hl1 HP c0 c1 c2 c3 c4 c5 c6 c7 c8 c9 c10 zF
          simp only [Option.map_some] at B ⊢
          iterate 11 (with_reducible refine grownThenRule ?_ rfl _)
          exact B
      case measure => simp [intOf]; omega
    · have hkn : k = n := by omega
      subst hkn
      rw [mfillRule_all q xs k hn] at O
      go_wp2
      go_ret
      exact ⟨rfl, O, B⟩

set_option maxRecDepth 20000 in
set_option maxHeartbeats 4000000 in
theorem heldRuleS_ok (a : Option Addr) (n ca : Nat) (q : Int) (w : World) (ha : RdRule w a (marksRule q n)) (h0 : 0 ≤ q) (hx : q + 11 * (n : Int) ≤ 1099511627776) :
    Calls Tryd.prog 86 #[.slice a n ca, .int .i64 q] w fun e w' => e = .returned (.int .i64 (q + 11 * (n : Int))) ∧ Below w.heap.size w w' := by
  go_enter Tryd.func86, Tryd.ntmps86
  go_wp2
  go_loopw [1, 5] (fun p i wr => ∃ k : Nat, k ≤ n ∧ i = .int .i64 k ∧ p = .int .i64 (q + 11 * (k : Int)) ∧ Below w.heap.size w wr) (fun _ i _ => n - (intOf i).toNat)
  case atStart => exact ⟨0, Nat.zero_le _, rfl, by simp, Below.refl _ _⟩
  case round =>
    obtain ⟨k, hk, rfl, rfl, B⟩ := hrel
    by_cases hlt : k < n
    · obtain ⟨p, hp⟩ : ∃ p, q + 11 * (k : Int) = p := ⟨_, rfl⟩
      have hp0 : 0 ≤ p := by omega
      have hp1 : p + 11 ≤ 1099511627776 := by omega
      have hm := marksRule_at q n k hlt
      rw [hp] at hm ⊢
      replace ha := ha.kept B
      rcases ha with ha | ⟨b1, o1, rfl, hca⟩
      · have := marksRule_len q n; simp [ha] at this; omega
      obtain ⟨p0, p1, p2, p3, p4, p5, p6, p7, p8, p9, p10⟩ := RdRule.cells hca k (by rw [marksRule_len]; omega) (mRule p) hm
      dsimp only [mRule] at p0 p1 p2 p3 p4 p5 p6 p7 p8 p9 p10
      have hk1 : (k : Int) < (n : Int) := by omega
      have HP := Hid.mk hp
      clear hca hm hp
      go_wp2
      go_roundw
      case rel =>
        refine ⟨k + 1, by omega, by go_num, ?_, B⟩
        have h := HP.out
        go_num
      case measure => simp [intOf]; omega
    · have hkn : k = n := by omega
      subst hkn
      go_wp2
      go_ret
      exact ⟨rfl, B⟩

end Go.Proofs.YtngkahchhioncaaDoor

/- The laws' own helpers over whole numbers, by contract. -/
namespace Go.Proofs.YtngkahchhioncaaDoor
open Go.RowKit

/-- What 'mark' lays: the numbers from q on, each brought to a byte. -/
def imarks (q : Int) (n : Nat) : List Int := (List.range n).map fun (i : Nat) => q + (i : Int)

theorem length_imarks (q : Int) (n : Nat) : (imarks q n).length = n := by simp [imarks]

theorem imarks_at (q : Int) (n k : Nat) (h : k < n) : (imarks q n).getD k 0 = q + (k : Int) := by simp [imarks, List.getD, h]

/-- A row of which the first 'k' bear their imarks. -/
def imarkFill (q : Int) (xs : List Int) (k : Nat) : List Int := imarks q k ++ xs.drop k

theorem imarkFill_zero (q : Int) (xs : List Int) : imarkFill q xs 0 = xs := by simp [imarkFill, imarks]

theorem imarkFill_all (q : Int) (xs : List Int) (n : Nat) (h : xs.length = n) : imarkFill q xs n = imarks q n := by simp [imarkFill, ← h]

theorem length_imarkFill (q : Int) (xs : List Int) (k n : Nat) (h : xs.length = n) (hk : k ≤ n) : (imarkFill q xs k).length = n := by simp [imarkFill, length_imarks]; omega

theorem imarkFill_set (q : Int) (xs : List Int) (k n : Nat) (h : xs.length = n) (hk : k < n) : (imarkFill q xs k).set k (q + (k : Int)) = imarkFill q xs (k + 1) := by
  unfold imarkFill
  rw [List.set_append_right _ _ (by rw [length_imarks]; exact Nat.le_refl _), length_imarks, Nat.sub_self, List.drop_eq_getElem_cons (by omega : k < xs.length), List.set_cons_zero]
  simp [imarks, List.range_succ]


set_option maxHeartbeats 400000 in
theorem markInt64S_ok (a : Option Addr) (n ca base : Nat) (xs : List Int) (q : Int) (w : World) (ha : Own .i64 2 w base a ca xs) (hn : xs.length = n) (h0 : 0 ≤ q) (hx : q + (n : Int) ≤ 9223372036854775807) :
    Calls Tryd.prog 84 #[.slice a n ca, .int .i64 q] w fun e w' => e = .returned (.int .i64 (q + (n : Int))) ∧ Own .i64 2 w' base a ca (imarks q n) ∧ w.grownBy w' (a.map Addr.block) := by
  have hA := Hid.mk ha
  have ha0 : w.ownsRow base 2 1 (.slice a n ca) n ((imarkFill q xs 0).map (Value.int .i64)) := by
    rw [imarkFill_zero]; exact ha.row hn
  go_enter Tryd.func84, Tryd.ntmps84
  go_wp2
  go_loopw [1, 5] (fun m i wr => ∃ k : Nat, k ≤ n ∧ i = .int .i64 k ∧ m = .int .i64 (q + (k : Int)) ∧ wr.ownsRow base 2 1 (.slice a n ca) n ((imarkFill q xs k).map (Value.int .i64)) ∧ w.grownBy wr (a.map Addr.block)) (fun _ i _ => n - (intOf i).toNat)
  case atStart => exact ⟨0, Nat.zero_le _, rfl, by simp, ha0, World.grownBy.refl _ _⟩
  case round =>
    obtain ⟨k, hk, rfl, rfl, hown, hb⟩ := hrel
    by_cases hlt : k < n
    · obtain ⟨g, rfl, hg⟩ := hA.out.some_of (by omega)
      have h2 : wr.frozen? ⟨g, k, none⟩ = false := hown.frozenAt k
      have h3 : wr.cell? ⟨g, k, none⟩ = some (.int .i64 ((imarkFill q xs k).getD k 0)) := by
        rw [hown.cellAt k (by omega)]
        simp [List.getD, length_imarkFill q xs k n hn hk, hlt]
      have hk1 : (k : Int) < (n : Int) := by omega
      have hs := hown.stored k (.int .i64 (q + (k : Int)))
      rw [set_map, imarkFill_set q xs k n hn hlt] at hs
      have HS := Hid.mk hs.1
      have HB := Hid.mk (grownBy_trans hb hs.2)
      clear hs hown hb ha0 ha
      go_wp2
      go_roundw
      case rel => exact ⟨k + 1, by omega, by go_num, by go_num, HS.out, HB.out⟩
      case measure => simp [intOf]; omega
    · have hkn : k = n := by omega
      subst hkn
      rw [imarkFill_all q xs k hn] at hown
      have HO := Hid.mk hown
      clear hown ha0 ha
      go_wp2
      go_ret
      exact ⟨rfl, Own.mk HO.out (length_imarks _ _), hb⟩

set_option maxHeartbeats 400000 in
theorem heldInt64S_ok (a : Option Addr) (n ca : Nat) (q : Int) (w : World) (ha : Rd .i64 w a (imarks q n)) (h0 : 0 ≤ q) (hx : q + (n : Int) ≤ 9223372036854775807) :
    Calls Tryd.prog 85 #[.slice a n ca, .int .i64 q] w fun e w' => e = .returned (.int .i64 (q + (n : Int))) ∧ Below w.heap.size w w' := by
  go_enter Tryd.func85, Tryd.ntmps85
  go_wp2
  go_loopw [1, 5] (fun m i wr => ∃ k : Nat, k ≤ n ∧ i = .int .i64 k ∧ m = .int .i64 (q + (k : Int)) ∧ wr = w) (fun _ i _ => n - (intOf i).toNat)
  case atStart => exact ⟨0, Nat.zero_le _, rfl, by simp, rfl⟩
  case round =>
    obtain ⟨k, hk, rfl, rfl, rfl⟩ := hrel
    by_cases hlt : k < n
    · rcases ha with ha | ⟨b1, o1, rfl, hca⟩
      · have := congrArg List.length ha; simp [imarks] at this; omega
      have h1 := hca k (by simpa [imarks] using hlt)
      rw [imarks_at q n k hlt] at h1
      have hk1 : (k : Int) < (n : Int) := by omega
      clear hca
      go_wp2
      go_roundw
      case rel => exact ⟨k + 1, by omega, by go_num, by go_num, by trivial⟩
      case measure => simp [intOf]; omega
    · have hkn : k = n := by omega
      subst hkn
      go_wp2
      go_ret
      exact ⟨rfl, Below.refl _ _⟩

set_option maxHeartbeats 1000000 in
theorem eqInt64S_ok (a b : Option Addr) (n ca cb : Nat) (xs : List Int) (w : World) (ha : Rd .i64 w a xs) (hb : Rd .i64 w b xs) (hn : xs.length = n) (hx : n ≤ maxLen) :
    Calls Tryd.prog 83 #[.slice a n ca, .slice b n cb] w fun e w' => e = .returned (.bool true) ∧ Below w.heap.size w w' := by
  unfold maxLen at hx
  go_enter Tryd.func83, Tryd.ntmps83
  go_wp2
  go_loopw [5] (fun i wr => ∃ k : Nat, k ≤ n ∧ i = .int .i64 k ∧ Below w.heap.size w wr) (fun i _ => n - (intOf i).toNat)
  case atStart => exact ⟨0, Nat.zero_le _, rfl, Below.refl _ _⟩
  case round =>
    obtain ⟨k, hk, rfl, hbel⟩ := hrel
    by_cases hlt : k < n
    · replace ha := ha.kept hbel
      replace hb := hb.kept hbel
      rcases ha with ha | ⟨b1, o1, rfl, hca⟩
      · simp [ha] at hn; omega
      rcases hb with hb | ⟨b2, o2, rfl, hcb⟩
      · simp [hb] at hn; omega
      have p0 := hca k (by omega)
      have p1 := hcb k (by omega)
      have hk1 : (k : Int) < (n : Int) := by omega
      clear hca hcb
      generalize xs.getD k 0 = z at *
      replace hbel := Hid.mk hbel
      go_wp2
      go_quiet (fail)
      go_wp2
      go_roundw
      case rel => exact ⟨k + 1, by omega, by go_num, belowN hbel.out _⟩
      case measure => simp [intOf]; omega
    · have hkn : k = n := by omega
      subst hkn
      go_wp2
      go_ret
      exact ⟨rfl, hbel⟩

theorem eqIntsResult_ok (k : Int) (a b : Option Addr) (n ca cb : Nat) (xs : List Int) (w : World) (ha : Rd .i64 w a xs) (hb : Rd .i64 w b xs) (hn : xs.length = n) (hx : n ≤ maxLen) :
    Calls Tryd.prog 38 #[.agg #[.int .i64 k, .slice a n ca], .agg #[.int .i64 k, .slice b n cb]] w fun e w' => e = .returned (.bool true) ∧ Below w.heap.size w w' := by
  go_enter Tryd.func38, Tryd.ntmps38
  go_wp2_with fail
  refine (eqInt64S_ok a b n ca cb xs _ (ha.kept (belowA2 _ _ _)) (hb.kept (belowA2 _ _ _)) hn hx).mono ?_
  rintro e w1 ⟨rfl, b1⟩
  go_wp2
  go_ret
  exact ⟨rfl, thenB (belowA2 _ _ _) b1⟩

set_option maxHeartbeats 400000 in
theorem markIntsResult_ok (k : Int) (a : Option Addr) (n ca base : Nat) (xs : List Int) (q : Int) (w : World) (ha : Own .i64 2 w base a ca xs) (hn : xs.length = n) (h0 : 0 ≤ q) (hx : q + (n : Int) ≤ 9223372036854775807) :
    Calls Tryd.prog 40 #[.agg #[.int .i64 k, .slice a n ca], .int .i64 q] w fun e w' => e = .returned (.int .i64 (q + (n : Int))) ∧ Own .i64 2 w' base a ca (imarks q n) ∧ w.grownBy w' (a.map Addr.block) := by
  go_enter Tryd.func40, Tryd.ntmps40
  go_wp2_with fail
  refine (markInt64S_ok a n ca base xs q _ (ha.kept (belowA _ _)) hn h0 hx).mono ?_
  rintro e w1 ⟨rfl, o1, g1⟩
  go_wp2
  go_ret
  exact ⟨rfl, o1, grownBy_trans (Below.grownBy (belowA _ _) _) g1⟩

set_option maxHeartbeats 400000 in
theorem heldIntsResult_ok (k : Int) (a : Option Addr) (n ca : Nat) (q : Int) (w : World) (ha : Rd .i64 w a (imarks q n)) (h0 : 0 ≤ q) (hx : q + (n : Int) ≤ 9223372036854775807) :
    Calls Tryd.prog 41 #[.agg #[.int .i64 k, .slice a n ca], .int .i64 q] w fun e w' => e = .returned (.int .i64 (q + (n : Int))) ∧ Below w.heap.size w w' := by
  go_enter Tryd.func41, Tryd.ntmps41
  go_wp2_with fail
  refine (heldInt64S_ok a n ca q _ (ha.kept (belowA _ _)) h0 hx).mono ?_
  rintro e w1 ⟨rfl, b1⟩
  have hq : 0 ≤ q + (n : Int) := by omega
  go_wp2
  go_ret
  exact ⟨rfl, thenB (belowA _ _) b1⟩

end Go.Proofs.YtngkahchhioncaaDoor

/- 'RulesResult' held against one another and marked; one rule put behind others at one operation; whether a number is in a list. -/
namespace Go.Proofs.YtngkahchhioncaaDoor
open Go.RowKit

set_option maxHeartbeats 1000000 in
theorem eqRulesResult_ok (k : Int) (a b : Option Addr) (n ca cb : Nat) (xs : List R11) (w : World) (ha : RdRule w a xs) (hb : RdRule w b xs) (hn : xs.length = n) (hx : n ≤ maxLen) :
    Calls Tryd.prog 42 #[.agg #[.int .i64 k, .slice a n ca], .agg #[.int .i64 k, .slice b n cb]] w fun e w' => e = .returned (.bool true) ∧ Below w.heap.size w w' := by
  go_enter Tryd.func42, Tryd.ntmps42
  have B := Below.refl w.heap.size w
  replace ha := ha.kept (belowA w (.cells #[.int .i64 k, .slice a n ca] 45))
  replace hb := hb.kept (belowA w (.cells #[.int .i64 k, .slice a n ca] 45))
  replace B := thenB B (belowA w (.cells #[.int .i64 k, .slice a n ca] 45))
  have VX := V.new w [.int .i64 k, .slice a n ca] 45
  replace VX := VX.kept (belowA (w.alloc (.cells #[.int .i64 k, .slice a n ca] 45)) (.cells #[.int .i64 k, .slice b n cb] 45))
  replace ha := ha.kept (belowA (w.alloc (.cells #[.int .i64 k, .slice a n ca] 45)) (.cells #[.int .i64 k, .slice b n cb] 45))
  replace hb := hb.kept (belowA (w.alloc (.cells #[.int .i64 k, .slice a n ca] 45)) (.cells #[.int .i64 k, .slice b n cb] 45))
  replace B := thenB B (belowA (w.alloc (.cells #[.int .i64 k, .slice a n ca] 45)) (.cells #[.int .i64 k, .slice b n cb] 45))
  have VY : V ((w.alloc (.cells #[.int .i64 k, .slice a n ca] 45)).alloc (.cells #[.int .i64 k, .slice b n cb] 45)) (w.heap.size + 1) [.int .i64 k, .slice b n cb] := V.newAt _ _ _ _ (by simp)
  obtain ⟨s_VX, f_VX, z_VX⟩ := VX.open
  obtain ⟨s_VY, f_VY, z_VY⟩ := VY.open
  have Bo := B
  go_wp2_with fail
  refine (eqRuleS_ok a b n ca cb xs _ ha hb hn hx).mono ?_
  rintro e w1 ⟨rfl, b1⟩
  clear s_VX f_VX z_VX s_VY f_VY z_VY
  have S1 := b1.size
  simp only [World.size_alloc] at S1
  replace VX := VX.kept b1
  replace VY := VY.kept b1
  replace ha := ha.kept b1
  replace hb := hb.kept b1
  replace B := thenB B b1
  clear b1
  obtain ⟨s_VX, f_VX, z_VX⟩ := VX.open
  obtain ⟨s_VY, f_VY, z_VY⟩ := VY.open
  have Bo := B
  go_wp2
  go_ret
  exact ⟨rfl, Bo⟩

set_option maxHeartbeats 1000000 in
theorem markRulesResult_ok (k : Int) (a : Option Addr) (n ca base : Nat) (xs : List R11) (q : Int) (w : World) (ha : OwnRule w base a ca xs) (hn : xs.length = n) (h0 : 0 ≤ q) (hx : q + 11 * (n : Int) ≤ 1099511627776) :
    Calls Tryd.prog 43 #[.agg #[.int .i64 k, .slice a n ca], .int .i64 q] w fun e w' => e = .returned (.int .i64 (q + 11 * (n : Int))) ∧ OwnRule w' base a ca (marksRule q n) ∧ w.grownBy w' (a.map Addr.block) := by
  have VX := V.new w [.int .i64 k, .slice a n ca] 45
  replace ha := ha.kept (belowA w (.cells #[.int .i64 k, .slice a n ca] 45))
  obtain ⟨s_VX, f_VX, z_VX⟩ := VX.open
  go_enter Tryd.func43, Tryd.ntmps43
  go_wp2_with fail
  refine (markRuleS_ok a n ca base xs q _ ha hn h0 hx).mono ?_
  rintro e w1 ⟨rfl, O, b1⟩
  go_wp2
  go_ret
  exact ⟨rfl, O, grownBy_trans (Below.grownBy (belowA w _) _) b1⟩

set_option maxHeartbeats 1000000 in
theorem heldRulesResult_ok (k : Int) (a : Option Addr) (n ca : Nat) (q : Int) (w : World) (ha : RdRule w a (marksRule q n)) (h0 : 0 ≤ q) (hx : q + 11 * (n : Int) ≤ 1099511627776) :
    Calls Tryd.prog 44 #[.agg #[.int .i64 k, .slice a n ca], .int .i64 q] w fun e w' => e = .returned (.int .i64 (q + 11 * (n : Int))) ∧ Below w.heap.size w w' := by
  have VX := V.new w [.int .i64 k, .slice a n ca] 45
  have B := belowA w (.cells #[.int .i64 k, .slice a n ca] 45)
  replace ha := ha.kept B
  obtain ⟨s_VX, f_VX, z_VX⟩ := VX.open
  have hneg : ¬ (q + 11 * (n : Int)) < 0 := by omega
  go_enter Tryd.func44, Tryd.ntmps44
  go_wp2_with fail
  refine (heldRuleS_ok a n ca q _ ha h0 hx).mono ?_
  rintro e w1 ⟨rfl, b1⟩
  go_wp2
  go_ret
  exact ⟨rfl, thenB B b1⟩

/-- One rule is put behind the rules of a row of one's own: at one operation. -/
theorem wp_putRule {o : Oper} {a : Act} {K : Act → World → Prop} {Q : Exit → Act → World → Prop} (w : World) (s x : Operand)
    (ho : o.op = .call { callee := .builtin .append, args := #[s, x], argTypes := #[24, 24] })
    (base : Nat) (c : Option Addr) (d : Nat) (xs : List R11) (n : Nat) (hn : xs.length = n) (hs : a.eval s = .slice c n d) (hown : OwnRule w base c d xs)
    (ad : Addr) (cc : Nat) (p : R11) (hx : a.eval x = .slice (some ad) 1 cc) (hp : ∀ j u, (rowRule p)[j]? = some u → w.cell? (ad.add j) = some u)
    (hlen : n ≤ 1000000) (hbase : base ≤ w.heap.size)
    (h : ∀ c' d' w', OwnRule w' base c' d' (xs ++ [p]) → w.grownBy w' (c.map Addr.block) → Hid (∃ g, c' = some ⟨g, 0, none⟩ ∧ ((∃ a, c = some a ∧ a.block = g) ∨ g = w.heap.size) ∧ g < w'.heap.size) → K (a.put o.dst (.slice c' (n + 1) d')) w') : o.wp Tryd.prog a w K Q := by
  subst hn
  obtain ⟨i, hi, hz, hsz, hby⟩ : ∃ i, Tryd.prog.info? 34 = some i ∧ i.zero = some (.agg #[.int .i64 0, .int .i64 0, .int .i64 0, .int .i64 0, .int .i64 0, .int .i64 0, .int .i64 0, .int .i64 0, .int .i64 0, .int .i64 0, .int .i64 0]) ∧ i.size = 11 ∧ i.bytes = 88 := by
    have h := Tryd.infoRule
    cases he : Tryd.prog.info? 34 with
    | none => rw [he] at h; cases h
    | some i =>
      rw [he] at h
      simp only [Option.map_some, Option.some.injEq, Prod.mk.injEq] at h
      exact ⟨i, rfl, h.1, h.2.1, h.2.2⟩
  refine wp_append_lies w s x 24 ho base 34 i _ 11 88 Tryd.underlying24 hi hz hsz hby (by rfl) (by decide) (.slice c xs.length d) xs.length (flatRule xs) hs hown ad 1 cc (rowRule p) hx rfl hp ?_ (by decide) (by unfold maxLen; omega) (by omega) hbase _ rfl ?_
  · intro u hu
    simp only [rowRule, List.mem_cons, List.not_mem_nil, or_false] at hu
    rcases hu with rfl | rfl | rfl | rfl | rfl | rfl | rfl | rfl | rfl | rfl | rfl <;> rfl
  · intro g cap w' h1 h2 h3 h4
    have e1 : (xs ++ [p]).length = xs.length + 1 := by simp
    have e2 : flatRule xs ++ rowRule p = flatRule (xs ++ [p]) := by rw [flatRule_app]; simp [flatRule]
    have h2' : w.grownBy w' (c.map Addr.block) := by cases c <;> exact h2
    refine h _ _ w' ?_ h2' (Hid.mk ⟨g, rfl, ?_, h4⟩)
    · unfold OwnRule; rw [e1, ← e2]; exact h1
    · rcases h3 with h3 | h3
      · left; cases c with
        | none => cases h3
        | some b => exact ⟨b, rfl, by simpa [Value.ownBlock] using h3⟩
      · exact .inr h3

/-- A number is in a list. -/
def inL (zs : List Int) (v : Int) : Bool := zs.any fun z => z == v

theorem inL_drop (zs : List Int) (v : Int) (k : Nat) (h : k < zs.length) {z : Int} (hz : zs.getD k 0 = z) : inL (zs.drop k) v = ((z == v) || inL (zs.drop (k + 1)) v) := by
  unfold inL
  rw [List.drop_eq_getElem_cons h, List.any_cons]
  have e : zs[k] = z := by rw [← hz]; simp [List.getD, h]
  rw [e]

theorem l1Has_ok (a : Option Addr) (n ca : Nat) (zs : List Int) (v : Int) (w : World) (ha : Rd .i64 w a zs) (hn : zs.length = n) (hx : n ≤ maxLen) :
    Calls Tryd.prog 69 #[.slice a n ca, .int .i64 v] w fun e w' => e = .returned (.bool (inL zs v)) ∧ Below w.heap.size w w' := by
  unfold maxLen at hx
  go_enter Tryd.func69, Tryd.ntmps69
  go_wp2
  go_loopw [5] (fun i wr => ∃ k : Nat, k ≤ n ∧ i = .int .i64 k ∧ inL (zs.drop k) v = inL zs v ∧ Below w.heap.size w wr) (fun i _ => n - (intOf i).toNat)
  case atStart => exact ⟨0, Nat.zero_le _, rfl, rfl, Below.refl _ _⟩
  case round =>
    obtain ⟨k, hk, rfl, hdr, B⟩ := hrel
    by_cases hlt : k < n
    · obtain ⟨z, hz⟩ : ∃ z, zs.getD k 0 = z := ⟨_, rfl⟩
      have hk1 : (k : Int) < (n : Int) := by omega
      have hs := inL_drop zs v k (by omega) hz
      rw [hdr] at hs
      replace ha := ha.kept B
      rcases ha with ha | ⟨b1, o1, rfl, hca⟩
      · simp [ha] at hn; omega
      have p0 := hca k (by omega)
      rw [hz] at p0
      clear hca hz hdr
      cases hg : (z == v)
      · rw [hg, Bool.false_or] at hs
        have HS := Hid.mk hs
        clear hs
        go_wp2
        go_roundw
        case rel => exact ⟨k + 1, by omega, by go_num, HS.out.symm, B⟩
        case measure => simp [intOf]; omega
      · rw [hg, Bool.true_or] at hs
        have HS := Hid.mk hs
        clear hs
        go_wp2
        go_ret
        exact ⟨ret_bool HS.out.symm, B⟩
    · have hkn : k = n := by omega
      subst hkn
      rw [List.drop_of_length_le (by omega)] at hdr
      have HS := Hid.mk hdr
      clear hdr
      go_wp2
      go_ret
      exact ⟨ret_bool HS.out, B⟩

/-- The place of a number in a list, or -1. -/
def atL : List Int → Int → Int → Int
  | [], _, _ => -1
  | z :: zs, v, k => if z == v then k else atL zs v (k + 1)

theorem atL_in (zs : List Int) (v k : Int) (h : 0 ≤ k) : decide (0 ≤ atL zs v k) = inL zs v := by
  induction zs generalizing k with
  | nil => rfl
  | cons z zs ih =>
    unfold atL inL
    rw [List.any_cons]
    cases hz : (z == v)
    · simp only [Bool.false_eq_true, if_false, Bool.false_or]; exact ih (k + 1) (by omega)
    · simp [h]

theorem atL_drop (zs : List Int) (v : Int) (k : Nat) (h : k < zs.length) {z : Int} (hz : zs.getD k 0 = z) : atL (zs.drop k) v k = if (z == v) = true then (k : Int) else atL (zs.drop (k + 1)) v ((k + 1 : Nat) : Int) := by
  rw [List.drop_eq_getElem_cons h, atL]
  have e : zs[k] = z := by rw [← hz]; simp [List.getD, h]
  rw [e]; rfl

theorem index_ok (a : Option Addr) (n ca : Nat) (zs : List Int) (v : Int) (w : World) (ha : Rd .i64 w a zs) (hn : zs.length = n) (hx : n ≤ maxLen) :
    Calls Tryd.prog 111 #[.slice a n ca, .int .i64 v] w fun e w' => e = .returned (.int .i64 (atL zs v 0)) ∧ Below w.heap.size w w' := by
  unfold maxLen at hx
  go_enter Tryd.func111, Tryd.ntmps111
  go_wp2
  go_loopw [8] (fun i wr => ∃ k : Nat, k ≤ n ∧ i = .int .i64 k ∧ atL (zs.drop k) v k = atL zs v 0 ∧ Below w.heap.size w wr) (fun i _ => n - (intOf i).toNat)
  case atStart => exact ⟨0, Nat.zero_le _, rfl, rfl, Below.refl _ _⟩
  case round =>
    obtain ⟨k, hk, rfl, hdr, B⟩ := hrel
    by_cases hlt : k < n
    · obtain ⟨z, hz⟩ : ∃ z, zs.getD k 0 = z := ⟨_, rfl⟩
      have hk1 : (k : Int) < (n : Int) := by omega
      have hs := atL_drop zs v k (by omega) hz
      rw [hdr] at hs
      replace ha := ha.kept B
      rcases ha with ha | ⟨b1, o1, rfl, hca⟩
      · simp [ha] at hn; omega
      have p0 := hca k (by omega)
      rw [hz] at p0
      clear hca hz hdr
      cases hg : (z == v)
      · have hg2 : (v == z) = false := by rw [Bool.beq_comm]; exact hg
        rw [hg, if_neg (by simp)] at hs
        have HS := Hid.mk hs
        clear hs
        go_wp2
        go_roundw
        case rel => exact ⟨k + 1, by omega, by go_num, HS.out.symm, B⟩
        case measure => simp [intOf]; omega
      · have hg2 : (v == z) = true := by rw [Bool.beq_comm]; exact hg
        rw [hg, if_pos rfl] at hs
        have HS := Hid.mk hs
        clear hs
        go_wp2
        go_ret
        exact ⟨ret_int HS.out.symm, B⟩
    · have hkn : k = n := by omega
      subst hkn
      rw [List.drop_of_length_le (by omega)] at hdr
      have HS := Hid.mk hdr
      clear hdr
      go_wp2
      go_ret
      exact ⟨ret_int HS.out, B⟩

theorem contains_ok (a : Option Addr) (n ca : Nat) (zs : List Int) (v : Int) (w : World) (ha : Rd .i64 w a zs) (hn : zs.length = n) (hx : n ≤ maxLen) :
    Calls Tryd.prog 67 #[.slice a n ca, .int .i64 v] w fun e w' => e = .returned (.bool (inL zs v)) ∧ Below w.heap.size w w' := by
  have CI := Hid.mk (index_ok a n ca zs v w ha hn hx)
  have hd := atL_in zs v 0 (Int.le_refl _)
  generalize atL zs v 0 = i at *
  rw [← hd]
  clear hd
  go_enter Tryd.func67, Tryd.ntmps67
  go_wp2_with fail
  refine CI.out.mono ?_
  rintro e w1 ⟨rfl, b1⟩
  go_wp2
  go_ret
  exact ⟨rfl, b1⟩

end Go.Proofs.YtngkahchhioncaaDoor

/- The policy trimmed. -/
namespace Go.Proofs.YtngkahchhioncaaDoor
open Go.RowKit

/-- What is read stays where another row has grown. -/
theorem rd_far {k : IntKind} {w w' : World} {a c : Option Addr} {zs : List Int} (h : Rd k w a zs) (hg : w.grownBy w' (c.map Addr.block)) (hne : ∀ b : Addr, c = some b → ∀ b' : Addr, a = some b' → b.block ≠ b'.block) : Rd k w' a zs := by
  rcases h with h | ⟨b, off, rfl, hc⟩
  · exact .inl h
  · refine .inr ⟨b, off, rfl, fun i hi => ?_⟩
    exact hg.cell (hc i hi) fun e => by
      cases c with
      | none => cases e
      | some y => simp only [Option.map_some, Option.some.injEq] at e; exact hne y rfl _ rfl e.symm

/-- What 'TrimPolicy' answers beside its code. -/
@[irreducible] def tpL (xs : List R11) : List R11 := if pyC xs = 0 then trL xs xs.length else []

theorem tp_ways (xs : List R11) : ((pyC xs != 0) = true ∧ pyC xs ≠ 0 ∧ tpL xs = []) ∨ (pyC xs = 0 ∧ tpL xs = trL xs xs.length) := by
  unfold tpL
  by_cases h : pyC xs = 0
  · exact .inr ⟨h, by rw [if_pos h]⟩
  · exact .inl ⟨by simp [h], h, by rw [if_neg h]⟩

theorem trL_le (xs : List R11) (k : Nat) : (trL xs k).length ≤ k := by have := trL_len xs k; omega

theorem tpL_len (xs : List R11) : (tpL xs).length ≤ 20 := by
  rcases tp_ways xs with ⟨_, _, h⟩ | ⟨h1, h⟩
  · rw [h]; exact Nat.zero_le _
  · rw [h]; have := trL_le xs xs.length; have := (pyC_zero h1).1; omega

theorem in_sh {xs : List R11} {n k : Nat} (hk : k < n) : inL (shI xs n) (k : Int) = shAt xs k := by
  unfold inL shI
  rw [Bool.eq_iff_iff, List.any_eq_true]
  constructor
  · rintro ⟨z, hz, he⟩
    obtain ⟨i, hi, rfl⟩ := List.mem_map.1 hz
    simp only [beq_iff_eq] at he
    obtain rfl : i = k := by omega
    exact (shL_mem.1 hi).2
  · intro h
    exact ⟨(k : Int), List.mem_map.2 ⟨k, shL_mem.2 ⟨hk, h⟩, rfl⟩, by simp⟩

theorem trL_yes {xs : List R11} {k : Nat} (h : shAt xs k = true) : trL xs (k + 1) = trL xs k := by
  rw [trL_next, if_pos h, List.append_nil]

theorem trL_no {xs : List R11} {k : Nat} {x : R11} (h : shAt xs k = false) (hx : xs.getD k zRule = x) : trL xs (k + 1) = trL xs k ++ [x] := by
  rw [trL_next, if_neg (by rw [h]; simp), hx]


set_option maxRecDepth 20000 in
set_option maxHeartbeats 8000000 in
theorem implTrimPolicy_ok (a : Option Addr) (n ca : Nat) (xs : List R11) (w : World) (ha : RdRule w a xs) (hn : xs.length = n) (hx : n ≤ maxLen) :
    Calls Tryd.prog 20 #[.slice a n ca] w fun e w' => ∃ (c : Option Addr) (d k : Nat), e = .returned (.agg #[.int .i64 (pyC xs), .slice c k d]) ∧ (tpL xs).length = k ∧ OwnRule w' w.heap.size c d (tpL xs) ∧ Below w.heap.size w w' := by
  have q0 := build_rs0
  have q1 := build_rs1
  have q2 := build_rsZ
  have CP := Hid.mk (fun w h => implShadowedRules_ok a n ca xs w h hn hx)
  rcases tp_ways xs with ⟨h1, h2, e1⟩ | ⟨h1, e1⟩
  · rw [e1]
    clear e1
    have hsr : srL xs = [] := by rcases sr_ways xs with ⟨_, _, h⟩ | ⟨h, _⟩; exact h; exact absurd h h2
    rw [hsr] at CP
    clear hsr h2
    generalize pyC xs = kk at *
    go_enter Tryd.func20, Tryd.ntmps20
    have B := Below.refl w.heap.size w
    replace ha := ha.kept (belowA w (.cells #[.int .i64 0, .slice none 0 0] 45))
    replace B := thenB B (belowA w (.cells #[.int .i64 0, .slice none 0 0] 45))
    have VR := V.new w [.int .i64 0, .slice none 0 0] 45
    obtain ⟨s_VR, f_VR, z_VR⟩ := VR.open
    have Bo := B
    go_wp2_with fail
    refine (CP.out _ ha).mono ?_
    rintro e w1 ⟨cs, ds, ks, rfl, hks, os, b1⟩
    clear s_VR f_VR z_VR
    have S1 := b1.size
    simp only [World.size_alloc] at S1
    replace VR := VR.kept b1
    replace ha := ha.kept b1
    replace B := thenB B b1
    clear b1
    obtain ⟨s_VR, f_VR, z_VR⟩ := VR.open
    have Bo := B
    clear hks os
    replace VR := VR.kept (belowA w1 (.cells #[.int .i64 kk, .slice cs ks ds] 50))
    replace ha := ha.kept (belowA w1 (.cells #[.int .i64 kk, .slice cs ks ds] 50))
    replace B := thenB B (belowA w1 (.cells #[.int .i64 kk, .slice cs ks ds] 50))
    have VS := V.new w1 [.int .i64 kk, .slice cs ks ds] 50
    clear s_VR f_VR z_VR
    obtain ⟨s_VR, f_VR, z_VR⟩ := VR.open
    obtain ⟨s_VS, f_VS, z_VS⟩ := VS.open
    replace Bo := B
    clear s_VR f_VR z_VR s_VS f_VS z_VS
    have VF := Hid.mk (VR.filled [.int .i64 kk, .slice none 0 0] rfl)
    have BR := belowCells B (show w.heap.size ≤ w.heap.size by (first | omega | (simp; done) | (simp; omega))) 0 [.int .i64 kk, .slice none 0 0]
    have HT := Hid.mk VR.there
    replace BR := Hid.mk BR
    obtain ⟨s_VR, f_VR, z_VR⟩ := VR.open
    obtain ⟨s_VS, f_VS, z_VS⟩ := VS.open
    go_wp2_with (refine wpList_store_mid rfl 45 _ _ rfl (w.heap.size) 0 #[.int .i64 kk, .slice none 0 0] rfl rfl HT.out (by kernel_rfl) (by kernel_rfl) ?_)
    refine bodyPost_ret (v := .agg #[.int .i64 kk, .slice none 0 0]) (results_row Tryd.results20 _ _ (w.heap.size) [.int .i64 kk, .slice none 0 0] _ rfl VF.out Tryd.underlying45 rfl (by kernel_rfl)) rfl ⟨none, 0, 0, rfl, rfl, OwnRule.none, BR.out⟩
  · have hx20 : n ≤ 20 := by have := (pyC_zero h1).1; omega
    have hsr : srL xs = shI xs n := by
      rcases sr_ways xs with ⟨_, h, _⟩ | ⟨_, h⟩
      · exact absurd h1 h
      · rw [h, hn]
    rw [hsr, h1] at CP
    rw [e1, h1, hn]
    have HA := Hid.mk ha
    clear e1 h1 hsr
    go_enter Tryd.func20, Tryd.ntmps20
    have B := Below.refl w.heap.size w
    replace ha := ha.kept (belowA w (.cells #[.int .i64 0, .slice none 0 0] 45))
    replace B := thenB B (belowA w (.cells #[.int .i64 0, .slice none 0 0] 45))
    have VR := V.new w [.int .i64 0, .slice none 0 0] 45
    obtain ⟨s_VR, f_VR, z_VR⟩ := VR.open
    have Bo := B
    go_wp2_with fail
    refine (CP.out _ ha).mono ?_
    rintro e w11 ⟨cs, ds, ks, rfl, hks, os, b11⟩
    clear s_VR f_VR z_VR
    have S11 := b11.size
    simp only [World.size_alloc] at S11
    replace VR := VR.kept b11
    replace ha := ha.kept b11
    replace B := thenB B b11
    clear b11
    obtain ⟨s_VR, f_VR, z_VR⟩ := VR.open
    have Bo := B
    have hks20 := shI_len xs n
    rw [hks] at hks20
    have HSL : Hid (∀ b : Addr, cs = some b → b.block < w11.heap.size) := Hid.mk (fun b hb => (os.lt b hb).2)
    replace VR := VR.kept (belowA w11 (.cells #[.int .i64 0, .slice cs ks ds] 50))
    replace ha := ha.kept (belowA w11 (.cells #[.int .i64 0, .slice cs ks ds] 50))
    replace os := os.kept (belowA w11 (.cells #[.int .i64 0, .slice cs ks ds] 50))
    replace B := thenB B (belowA w11 (.cells #[.int .i64 0, .slice cs ks ds] 50))
    have VS := V.new w11 [.int .i64 0, .slice cs ks ds] 50
    clear s_VR f_VR z_VR
    obtain ⟨s_VR, f_VR, z_VR⟩ := VR.open
    obtain ⟨s_VS, f_VS, z_VS⟩ := VS.open
    replace Bo := B
    clear s_VR f_VR z_VR s_VS f_VS z_VS
    have hVS := VS.1
    have hVR := VR.1
    have HB := Hid.mk B
    have HO := Hid.mk os.rd
    replace hks := Hid.mk hks
    replace VR := Hid.mk VR
    replace VS := Hid.mk VS
    have hsz : w.heap.size + 1 ≤ w11.heap.size := by have := S11; omega
    clear B Bo ha os CP
    go_wp2
    go_loopw [4, 17] (fun v i wr => ∃ (k d j : Nat) (c : Option Addr), k ≤ n ∧ i = .int .i64 k ∧ v = .slice c j d ∧ (trL xs k).length = j ∧ OwnRule wr (w11.heap.size + 1) c d (trL xs k) ∧ V wr w.heap.size [.int .i64 0, .slice none 0 0] ∧ V wr (w11.heap.size) [.int .i64 0, .slice cs ks ds] ∧ Rd .i64 wr cs (shI xs n) ∧ Below w.heap.size w wr) (fun _ i _ => n - (intOf i).toNat)
    case atStart => exact ⟨0, 0, 0, none, Nat.zero_le _, rfl, rfl, rfl, OwnRule.none, VR.out, VS.out, HO.out, HB.out⟩
    case round =>
      clear VR VS HO HB
      obtain ⟨k, d, j, c, hk, rfl, rfl, hj, O, VR, VS, RS, B⟩ := hrel
      by_cases hlt : k < n
      · obtain ⟨x, hx1⟩ : ∃ x, xs.getD k zRule = x := ⟨_, rfl⟩
        have hk1 : (k : Int) < (n : Int) := by omega
        have hjk := trL_le xs k
        have hj20 : j ≤ 20 := by omega
        have hin := in_sh (xs := xs) hlt
        have CC := Hid.mk (fun w h => contains_ok cs ks ds (shI xs n) (k : Int) w h hks.out (by unfold maxLen; omega))
        rw [hin] at CC
        rcases HA.out.kept B with h0 | ⟨b1, o1, rfl, hca⟩
        · rw [h0] at hn; simp at hn; omega
        obtain ⟨p0, p1, p2, p3, p4, p5, p6, p7, p8, p9, p10⟩ := RdRule.cells hca k (by omega) x hx1
        have HJ := Hid.mk hj
        have hVR := VR.1
        have hVS := VS.1
        have hOl := O.lt
        have F1 : Hid (∀ b : Addr, c = some b → b.block ≠ wr.heap.size) := Hid.mk (fun b hb => by have := (hOl b hb).2; omega)
        have F2 : Hid (∀ b : Addr, c = some b → b.block ≠ w11.heap.size) := Hid.mk (fun b hb => by have := (hOl b hb).1; omega)
        have F3 : Hid (∀ b : Addr, c = some b → b.block ≠ w.heap.size) := Hid.mk (fun b hb => by have := (hOl b hb).1; omega)
        clear hca hin hj hOl
        replace hx1 := Hid.mk hx1
        replace VR := VR.kept (belowA wr (.cells #[.int .i64 x.s.a, .int .i64 x.s.b, .int .i64 x.s.c, .int .i64 x.s.d, .int .i64 x.s.e, .int .i64 x.s.f, .int .i64 x.s.g, .int .i64 x.s.h, .int .i64 x.s.r, .int .i64 x.p, .int .i64 x.q] 34))
        replace VS := VS.kept (belowA wr (.cells #[.int .i64 x.s.a, .int .i64 x.s.b, .int .i64 x.s.c, .int .i64 x.s.d, .int .i64 x.s.e, .int .i64 x.s.f, .int .i64 x.s.g, .int .i64 x.s.h, .int .i64 x.s.r, .int .i64 x.p, .int .i64 x.q] 34))
        replace O := O.kept (belowA wr (.cells #[.int .i64 x.s.a, .int .i64 x.s.b, .int .i64 x.s.c, .int .i64 x.s.d, .int .i64 x.s.e, .int .i64 x.s.f, .int .i64 x.s.g, .int .i64 x.s.h, .int .i64 x.s.r, .int .i64 x.p, .int .i64 x.q] 34))
        replace RS := RS.kept (belowA wr (.cells #[.int .i64 x.s.a, .int .i64 x.s.b, .int .i64 x.s.c, .int .i64 x.s.d, .int .i64 x.s.e, .int .i64 x.s.f, .int .i64 x.s.g, .int .i64 x.s.h, .int .i64 x.s.r, .int .i64 x.p, .int .i64 x.q] 34))
        replace B := thenB B (belowA wr (.cells #[.int .i64 x.s.a, .int .i64 x.s.b, .int .i64 x.s.c, .int .i64 x.s.d, .int .i64 x.s.e, .int .i64 x.s.f, .int .i64 x.s.g, .int .i64 x.s.h, .int .i64 x.s.r, .int .i64 x.p, .int .i64 x.q] 34))
        have VX := V.new wr [.int .i64 x.s.a, .int .i64 x.s.b, .int .i64 x.s.c, .int .i64 x.s.d, .int .i64 x.s.e, .int .i64 x.s.f, .int .i64 x.s.g, .int .i64 x.s.h, .int .i64 x.s.r, .int .i64 x.p, .int .i64 x.q] 34
        obtain ⟨s_VR, f_VR, z_VR⟩ := VR.open
        obtain ⟨s_VS, f_VS, z_VS⟩ := VS.open
        obtain ⟨s_VX, f_VX, z_VX⟩ := VX.open
        have Bo := B
        go_wp2_with fail
        refine (CC.out _ RS).mono ?_
        rintro e w41 ⟨rfl, b41⟩
        clear s_VR f_VR z_VR s_VS f_VS z_VS s_VX f_VX z_VX
        have S41 := b41.size
        simp only [World.size_alloc] at S41
        replace VR := VR.kept b41
        replace VS := VS.kept b41
        replace VX := VX.kept b41
        replace O := O.kept b41
        replace RS := RS.kept b41
        replace B := thenB B b41
        clear b41
        obtain ⟨s_VR, f_VR, z_VR⟩ := VR.open
        obtain ⟨s_VS, f_VS, z_VS⟩ := VS.open
        obtain ⟨s_VX, f_VX, z_VX⟩ := VX.open
        have Bo := B
        clear p0 p1 p2 p3 p4 p5 p6 p7 p8 p9 p10
        have hVX := VX.1
        have hVR := VR.1
        have hVS := VS.1
        generalize hBx : wr.heap.size = Bx at *
        cases hg : shAt xs k
        · skip
          clear s_VR f_VR z_VR s_VS f_VS z_VS s_VX f_VX z_VX
          have hno := Hid.mk (trL_no hg hx1.out)
          obtain ⟨s_VX, f_VX, z_VX⟩ := VX.open
          have OL := O.kept (belowA w41 (.cells #[.int .i64 x.s.a, .int .i64 x.s.b, .int .i64 x.s.c, .int .i64 x.s.d, .int .i64 x.s.e, .int .i64 x.s.f, .int .i64 x.s.g, .int .i64 x.s.h, .int .i64 x.s.r, .int .i64 x.p, .int .i64 x.q] 34))
          have VRL := Hid.mk (VR.kept (belowA w41 (.cells #[.int .i64 x.s.a, .int .i64 x.s.b, .int .i64 x.s.c, .int .i64 x.s.d, .int .i64 x.s.e, .int .i64 x.s.f, .int .i64 x.s.g, .int .i64 x.s.h, .int .i64 x.s.r, .int .i64 x.p, .int .i64 x.q] 34)))
          have VSL := Hid.mk (VS.kept (belowA w41 (.cells #[.int .i64 x.s.a, .int .i64 x.s.b, .int .i64 x.s.c, .int .i64 x.s.d, .int .i64 x.s.e, .int .i64 x.s.f, .int .i64 x.s.g, .int .i64 x.s.h, .int .i64 x.s.r, .int .i64 x.p, .int .i64 x.q] 34)))
          have RSL := Hid.mk (RS.kept (belowA w41 (.cells #[.int .i64 x.s.a, .int .i64 x.s.b, .int .i64 x.s.c, .int .i64 x.s.d, .int .i64 x.s.e, .int .i64 x.s.f, .int .i64 x.s.g, .int .i64 x.s.h, .int .i64 x.s.r, .int .i64 x.p, .int .i64 x.q] 34)))
          have BL := Hid.mk (thenB B (belowA w41 (.cells #[.int .i64 x.s.a, .int .i64 x.s.b, .int .i64 x.s.c, .int .i64 x.s.d, .int .i64 x.s.e, .int .i64 x.s.f, .int .i64 x.s.g, .int .i64 x.s.h, .int .i64 x.s.r, .int .i64 x.p, .int .i64 x.q] 34)))
          have TL : w11.heap.size + 1 ≤ (w41.alloc (.cells #[.int .i64 x.s.a, .int .i64 x.s.b, .int .i64 x.s.c, .int .i64 x.s.d, .int .i64 x.s.e, .int .i64 x.s.f, .int .i64 x.s.g, .int .i64 x.s.h, .int .i64 x.s.r, .int .i64 x.p, .int .i64 x.q] 34)).heap.size := by have := VSL.out.1; omega
          have OLT := Hid.mk OL.lt
          clear O VR VS RS B Bo
          go_wp2_with (at_builtin; go_loud (refine wpList_putRule _ rfl _ _ rfl (w11.heap.size + 1) c d (trL xs k) j HJ.out rfl OL _ 1 x rfl (newCells _ _ (rowRule x)) (by omega) TL ?_))
          intro c6 d6 w6 O6 hg6 hx6
          rw [← hno.out] at O6
          have VR7 := VRL.out.grownR hg6 (row_ne F3.out)
          have VS7 := VSL.out.grownR hg6 (row_ne F2.out)
          have B7 := belowG BL.out hg6 (by omega) (fun b hb => by have := (OLT.out b hb).1; omega)
          have hl6 : Hid ((trL xs (k + 1)).length = j + 1) := Hid.mk (by rw [hno.out, List.length_append, HJ.out]; rfl)
          have RS7 := rd_far RSL.out hg6 (fun b hb b' hb' e => by have h1 := (OLT.out b hb).1; have h2 := HSL.out b' hb'; omega)
          clear OL VRL VSL RSL BL OLT s_VX f_VX z_VX VX hg6 hx6 TL
          replace O6 := Hid.mk O6
          replace VR7 := Hid.mk VR7
          replace VS7 := Hid.mk VS7
          replace RS7 := Hid.mk RS7
          replace B7 := Hid.mk B7
          go_wp2
          go_roundw
          case rel => exact ⟨k + 1, d6, j + 1, c6, by omega, by go_num, rfl, hl6.out, O6.out, VR7.out, VS7.out, RS7.out, B7.out⟩
          case measure => simp [intOf]; omega
        · skip
          clear s_VR f_VR z_VR s_VS f_VS z_VS s_VX f_VX z_VX
          have hyes := Hid.mk (trL_yes hg)
          replace O := Hid.mk O
          replace VR := Hid.mk VR
          replace VS := Hid.mk VS
          replace RS := Hid.mk RS
          replace B := Hid.mk B
          clear Bo VX
          go_wp2
          go_roundw
          case rel => exact ⟨k + 1, d, j, c, by omega, by go_num, rfl, by rw [hyes.out]; exact HJ.out, by rw [hyes.out]; exact O.out, VR.out, VS.out, RS.out, B.out⟩
          case measure => simp [intOf]; omega
      · obtain rfl : k = n := by omega
        have HO := Hid.mk (O.mono (show w.heap.size ≤ _ by omega))
        have HK := Hid.mk hj
        have HC := Hid.mk (fun b hb => (O.lt b hb).1)
        clear O hj RS
        obtain ⟨s_VR, f_VR, z_VR⟩ := VR.open
        have Bo := B
        clear s_VR f_VR z_VR
        have VF := Hid.mk (VR.filled [.int .i64 0, .slice c j d] rfl)
        have BR := belowCells B (show w.heap.size ≤ w.heap.size by (first | omega | (simp; done) | (simp; omega))) 0 [.int .i64 0, .slice c j d]
        have HT := Hid.mk VR.there
        replace BR := Hid.mk BR
        obtain ⟨s_VR, f_VR, z_VR⟩ := VR.open
        go_wp2_with (refine wpList_store_mid rfl 45 _ _ rfl (w.heap.size) 0 #[.int .i64 0, .slice c j d] rfl rfl HT.out (by kernel_rfl) (by kernel_rfl) ?_)
        refine bodyPost_ret (v := .agg #[.int .i64 0, .slice c j d]) (results_row Tryd.results20 _ _ (w.heap.size) [.int .i64 0, .slice c j d] _ rfl VF.out Tryd.underlying45 rfl (by kernel_rfl)) rfl ⟨c, d, j, rfl, HK.out, HO.out.apart (by intro b hb; have := HC.out b hb; omega) _ _, BR.out⟩
end Go.Proofs.YtngkahchhioncaaDoor

/- The policy trimmed: the model. -/
namespace Go.Proofs.YtngkahchhioncaaDoor
open Go.RowKit

theorem rd_set {k : IntKind} {w : World} {a : Option Addr} {zs : List Int} {p : Addr} (h : Rd k w a zs) (hne : ∀ b' : Addr, a = some b' → p.block ≠ b'.block) (v : Value) : Rd k (w.setCell p v) a zs :=
  rd_far (c := some p) h ⟨rfl, rfl, rfl, by simp [World.setCell], fun k _ hk => Below.heap_setCell _ _ _ _ (fun e => hk (by rw [Option.map_some, e]))⟩ fun b hb b' hb' => by
    simp only [Option.some.injEq] at hb
    subst hb
    exact hne b' hb'

set_option maxRecDepth 20000 in
set_option maxHeartbeats 8000000 in
theorem specTrimPolicy_ok (a : Option Addr) (n ca : Nat) (xs : List R11) (w : World) (ha : RdRule w a xs) (hn : xs.length = n) (hx : n ≤ maxLen) :
    Calls Tryd.prog 21 #[.slice a n ca] w fun e w' => ∃ (c : Option Addr) (d k : Nat), e = .returned (.agg #[.int .i64 (pyC xs), .slice c k d]) ∧ (tpL xs).length = k ∧ OwnRule w' w.heap.size c d (tpL xs) ∧ Below w.heap.size w w' := by
  have q0 := build_rs0
  have q1 := build_rs1
  have q2 := build_rsZ
  have CP := Hid.mk (fun w h => specPolicyFault_ok a n ca xs w h hn hx)
  rcases tp_ways xs with ⟨h1, h2, e1⟩ | ⟨h1, e1⟩
  · rw [e1]
    clear e1
    generalize pyC xs = kk at *
    go_enter Tryd.func21, Tryd.ntmps21
    have B := Below.refl w.heap.size w
    replace ha := ha.kept (belowA w (.cells #[.int .i64 0, .slice none 0 0] 45))
    replace B := thenB B (belowA w (.cells #[.int .i64 0, .slice none 0 0] 45))
    have VR := V.new w [.int .i64 0, .slice none 0 0] 45
    obtain ⟨s_VR, f_VR, z_VR⟩ := VR.open
    have Bo := B
    go_wp2_with fail
    refine (CP.out _ ha).mono ?_
    rintro e w1 ⟨rfl, b1⟩
    clear s_VR f_VR z_VR
    have S1 := b1.size
    simp only [World.size_alloc] at S1
    replace VR := VR.kept b1
    replace ha := ha.kept b1
    replace B := thenB B b1
    clear b1
    obtain ⟨s_VR, f_VR, z_VR⟩ := VR.open
    have Bo := B
    clear s_VR f_VR z_VR
    have VF := Hid.mk (VR.filled [.int .i64 kk, .slice none 0 0] rfl)
    have BR := belowCells B (show w.heap.size ≤ w.heap.size by (first | omega | (simp; done) | (simp; omega))) 0 [.int .i64 kk, .slice none 0 0]
    have HT := Hid.mk VR.there
    replace BR := Hid.mk BR
    obtain ⟨s_VR, f_VR, z_VR⟩ := VR.open
    go_wp2_with (refine wpList_store_mid rfl 45 _ _ rfl (w.heap.size) 0 #[.int .i64 kk, .slice none 0 0] rfl rfl HT.out (by kernel_rfl) (by kernel_rfl) ?_)
    refine bodyPost_ret (v := .agg #[.int .i64 kk, .slice none 0 0]) (results_row Tryd.results21 _ _ (w.heap.size) [.int .i64 kk, .slice none 0 0] _ rfl VF.out Tryd.underlying45 rfl (by kernel_rfl)) rfl ⟨none, 0, 0, rfl, rfl, OwnRule.none, BR.out⟩
  · have hx20 : n ≤ 20 := by have := (pyC_zero h1).1; omega
    have CS := Hid.mk (fun w h => l4Shadowed_ok a n ca xs w h hn hx20)
    rw [h1] at CP
    rw [e1, h1, hn]
    have HA := Hid.mk ha
    clear e1 h1
    go_enter Tryd.func21, Tryd.ntmps21
    have B := Below.refl w.heap.size w
    replace ha := ha.kept (belowA w (.cells #[.int .i64 0, .slice none 0 0] 45))
    replace B := thenB B (belowA w (.cells #[.int .i64 0, .slice none 0 0] 45))
    have VR := V.new w [.int .i64 0, .slice none 0 0] 45
    obtain ⟨s_VR, f_VR, z_VR⟩ := VR.open
    have Bo := B
    go_wp2_with fail
    refine (CP.out _ ha).mono ?_
    rintro e w11 ⟨rfl, b11⟩
    clear s_VR f_VR z_VR
    have S11 := b11.size
    simp only [World.size_alloc] at S11
    replace VR := VR.kept b11
    replace ha := ha.kept b11
    replace B := thenB B b11
    clear b11
    obtain ⟨s_VR, f_VR, z_VR⟩ := VR.open
    have Bo := B
    go_wp2_with fail
    refine (CS.out _ ha).mono ?_
    rintro e w12 ⟨g0, dg, kg, rfl, hkg, os, b12⟩
    clear s_VR f_VR z_VR
    have S12 := b12.size
    replace VR := VR.kept b12
    replace ha := ha.kept b12
    replace B := thenB B b12
    clear b12
    obtain ⟨s_VR, f_VR, z_VR⟩ := VR.open
    have Bo := B
    have HSL := (os.lt _ rfl).2
    simp only at HSL
    replace VR := VR.kept (belowA w12 (.cells #[.int .i64 0, .slice none 0 0] 45))
    replace ha := ha.kept (belowA w12 (.cells #[.int .i64 0, .slice none 0 0] 45))
    replace os := os.kept (belowA w12 (.cells #[.int .i64 0, .slice none 0 0] 45))
    replace B := thenB B (belowA w12 (.cells #[.int .i64 0, .slice none 0 0] 45))
    have VO := V.new w12 [.int .i64 0, .slice none 0 0] 45
    clear s_VR f_VR z_VR
    obtain ⟨s_VR, f_VR, z_VR⟩ := VR.open
    obtain ⟨s_VO, f_VO, z_VO⟩ := VO.open
    replace Bo := B
    clear s_VR f_VR z_VR s_VO f_VO z_VO
    have hVR := VR.1
    have HB := Hid.mk B
    have HO := Hid.mk os.rd
    have hks20 := shI_len xs n
    rw [hkg] at hks20
    replace hkg := Hid.mk hkg
    replace VR := Hid.mk VR
    have hsz : w.heap.size + 1 ≤ w12.heap.size := by omega
    obtain ⟨s_VO, f_VO, z_VO⟩ := VO.open
    have VO1 := Hid.mk VO
    have hT := Hid.mk VO.there
    have VF := VO.filled [.int .i64 0, .slice none 0 0] rfl
    have VR1 := VR.out.apart (B := w12.heap.size) (by omega) 0 [.int .i64 0, .slice none 0 0]
    have B1 := belowCells HB.out (show w.heap.size ≤ w12.heap.size by omega) 0 [.int .i64 0, .slice none 0 0]
    have O1 := ownCells os (B := w12.heap.size) (by intro b hb; simp at hb; subst hb; simp only; omega) 0 [.int .i64 0, .slice none 0 0]
    obtain ⟨w6, hw6⟩ : ∃ w6, (w12.alloc (.cells #[.int .i64 0, .slice none 0 0] 45)).setCells w12.heap.size 0 [.int .i64 0, .slice none 0 0] = w6 := ⟨_, rfl⟩
    rw [hw6] at VF VR1 B1 O1
    replace hw6 := Hid.mk hw6
    replace HO := Hid.mk O1.rd
    replace VF := Hid.mk VF
    replace VR1 := Hid.mk VR1
    replace B1 := Hid.mk B1
    clear os O1 VO HB VR B Bo ha CP
    go_upto_region 6 with (refine wpList_stroke w6 rfl 45 _ _ rfl (w12.heap.size) 0 #[.int .i64 0, .slice none 0 0] rfl rfl hT.out (by kernel_rfl) (by kernel_rfl) hw6.out ?_)
    clear s_VO f_VO z_VO VO1 hT hw6
    generalize hQ : w12.heap.size = Q at *
    go_wp2
    go_loopw [6] (fun i wr => ∃ (k d j : Nat) (c : Option Addr), k ≤ n ∧ i = .int .i64 k ∧ (trL xs k).length = j ∧ OwnRule wr (Q + 1) c d (trL xs k) ∧ V wr w.heap.size [.int .i64 0, .slice none 0 0] ∧ V wr Q [.int .i64 0, .slice c j d] ∧ Rd .i64 wr (some ⟨g0, 0, none⟩) (shI xs n) ∧ Below w.heap.size w wr) (fun i _ => n - (intOf i).toNat)
    case atStart => exact ⟨0, 0, 0, none, Nat.zero_le _, rfl, rfl, OwnRule.none, VR1.out, VF.out, HO.out, B1.out⟩
    case round =>
      clear VR1 VF HO B1
      obtain ⟨k, d, j, c, hk, rfl, hj, O, VR, VO, RS, B⟩ := hrel
      by_cases hlt : k < n
      · obtain ⟨x, hx1⟩ : ∃ x, xs.getD k zRule = x := ⟨_, rfl⟩
        have hk1 : (k : Int) < (n : Int) := by omega
        have hjk := trL_le xs k
        have hj20 : j ≤ 20 := by omega
        have hin := in_sh (xs := xs) hlt
        have CC := Hid.mk (fun w h => l1Has_ok (some ⟨g0, 0, none⟩) kg dg (shI xs n) (k : Int) w h hkg.out (by unfold maxLen; omega))
        rw [hin] at CC
        have HJ := Hid.mk hj
        have hOl := O.lt
        have F2 : Hid (∀ b : Addr, c = some b → b.block ≠ Q) := Hid.mk (fun b hb => by have := (hOl b hb).1; omega)
        have F3 : Hid (∀ b : Addr, c = some b → b.block ≠ w.heap.size) := Hid.mk (fun b hb => by have := (hOl b hb).1; omega)
        clear hin hj hOl
        replace hx1 := Hid.mk hx1
        obtain ⟨s_VR, f_VR, z_VR⟩ := VR.open
        obtain ⟨s_VO, f_VO, z_VO⟩ := VO.open
        have Bo := B
        go_wp2_with fail
        refine (CC.out _ RS).mono ?_
        rintro e w41 ⟨rfl, b41⟩
        clear s_VR f_VR z_VR s_VO f_VO z_VO
        have S41 := b41.size
        replace VR := VR.kept b41
        replace VO := VO.kept b41
        replace O := O.kept b41
        replace RS := RS.kept b41
        replace B := thenB B b41
        clear b41
        obtain ⟨s_VR, f_VR, z_VR⟩ := VR.open
        obtain ⟨s_VO, f_VO, z_VO⟩ := VO.open
        have Bo := B
        cases hg : shAt xs k
        · skip
          clear s_VR f_VR z_VR s_VO f_VO z_VO
          have hno := Hid.mk (trL_no hg hx1.out)
          clear Bo CC
          go_upto_region 10 with fail
          refine wp_region_any (by kernel_rfl) ?_
          change wpAny _ _ _ _ _ _ _ w41.drew
          have bd : Below w41.heap.size w41 w41.drew := (Below.refl _ _).drew
          replace O := O.kept bd
          replace VR := VR.kept bd
          replace VO := VO.kept bd
          replace RS := RS.kept bd
          replace B := thenB B bd
          clear bd
          generalize w41.drew = wd at *
          rcases HA.out.kept B with h0 | ⟨b1, o1, rfl, hca⟩
          · rw [h0] at hn; simp at hn; omega
          obtain ⟨p0, p1, p2, p3, p4, p5, p6, p7, p8, p9, p10⟩ := RdRule.cells hca k (by omega) x hx1.out
          clear hca
          have hVO := VO.1
          have hVR := VR.1
          refine wpAny_take (i := 0) (oi := _) (v := ?vtk0) rfl (by kernel_rfl) (by kernel_rfl) (by kernel_rfl) (fun _ _ _ h => h) (Or.inl ⟨by rfl, ?hytk0⟩) ?resttk0
          case hytk0 => (intro w; go_simp; first | done | with_reducible rfl)
          try simp only [Act.put, List.getElem_toArray, List.getElem_cons_zero, List.setIfInBounds_toArray, List.set_cons_zero, List.set_cons_succ]
          refine wpAny_take (i := 2) (oi := _) (v := ?vtk2) rfl (by kernel_rfl) (by kernel_rfl) (by kernel_rfl) (fun _ _ _ h => h) (Or.inl ⟨by rfl, ?hytk2⟩) ?resttk2
          case hytk2 => (intro w; go_simp; first | done | with_reducible rfl)
          try simp only [Act.put, List.getElem_toArray, List.getElem_cons_zero, List.getElem_cons_succ, List.setIfInBounds_toArray, List.set_cons_zero, List.set_cons_succ]
          refine wpAny_take (i := 3) (oi := _) (v := ?vtk3) rfl (by kernel_rfl) (by kernel_rfl) (by kernel_rfl) (fun _ _ _ h => h) (Or.inl ⟨by rfl, ?hytk3⟩) ?resttk3
          case hytk3 => (intro w; go_simp; first | done | with_reducible rfl)
          try simp only [Act.put, List.getElem_toArray, List.getElem_cons_zero, List.getElem_cons_succ, List.setIfInBounds_toArray, List.set_cons_zero, List.set_cons_succ]
          refine wpAny_take (i := 4) (oi := _) (v := ?vtk4) rfl (by kernel_rfl) (by kernel_rfl) (by kernel_rfl) (fun _ _ _ h => h) (Or.inl ⟨by rfl, ?hytk4⟩) ?resttk4
          case hytk4 => (intro w; go_simp; first | done | with_reducible rfl)
          try simp only [Act.put, List.getElem_toArray, List.getElem_cons_zero, List.getElem_cons_succ, List.setIfInBounds_toArray, List.set_cons_zero, List.set_cons_succ]
          refine wpAny_ready (rs := [1, 5]) (by kernel_rfl) (by simp) ?_
          refine AllReady.cons (o := _) rfl (fun K0 hK0 => ?_) (AllReady.cons (o := _) rfl (fun K0 hK0 => ?_) AllReady.nil)
          · skip
            obtain ⟨s_VO, f_VO, z_VO⟩ := VO.open
            go_simp
            refine hK0 _ _ ?_
            clear hK0 K0 s_VO f_VO z_VO
            try simp only [Act.put, List.getElem_toArray, List.getElem_cons_zero, List.getElem_cons_succ, List.setIfInBounds_toArray, List.set_cons_zero, List.set_cons_succ]
            refine wpAny_ready (rs := [5]) (by kernel_rfl) (by simp) ?_
            refine AllReady.cons (o := _) rfl (fun K0 hK0 => ?_) AllReady.nil
            go_simp
            refine hK0 _ _ ?_
            clear hK0 K0 p0 p1 p2 p3 p4 p5 p6 p7 p8 p9 p10
            try simp only [Act.put, List.getElem_toArray, List.getElem_cons_zero, List.getElem_cons_succ, List.setIfInBounds_toArray, List.set_cons_zero, List.set_cons_succ]
            refine wpAny_ready (rs := [6]) (by kernel_rfl) (by simp) ?_
            refine AllReady.cons (o := _) rfl (fun K0 hK0 => ?_) AllReady.nil
            go_simp
            refine hK0 _ _ ?_
            clear hK0 K0
            try simp only [Act.put, List.getElem_toArray, List.getElem_cons_zero, List.getElem_cons_succ, List.setIfInBounds_toArray, List.set_cons_zero, List.set_cons_succ]
            have bq := belowA wd (.cells #[.int .i64 x.s.a, .int .i64 x.s.b, .int .i64 x.s.c, .int .i64 x.s.d, .int .i64 x.s.e, .int .i64 x.s.f, .int .i64 x.s.g, .int .i64 x.s.h, .int .i64 x.s.r, .int .i64 x.p, .int .i64 x.q] 34)
            have HNC := newCells wd 34 (rowRule x)
            have hsq : (wd.alloc (.cells #[.int .i64 x.s.a, .int .i64 x.s.b, .int .i64 x.s.c, .int .i64 x.s.d, .int .i64 x.s.e, .int .i64 x.s.f, .int .i64 x.s.g, .int .i64 x.s.h, .int .i64 x.s.r, .int .i64 x.p, .int .i64 x.q] 34)).heap.size = wd.heap.size + 1 := by simp
            replace O := O.kept bq
            replace VR := VR.kept bq
            replace VO := VO.kept bq
            replace RS := RS.kept bq
            replace B := thenB B bq
            change ∀ j u, (rowRule x)[j]? = some u → (wd.alloc (.cells #[.int .i64 x.s.a, .int .i64 x.s.b, .int .i64 x.s.c, .int .i64 x.s.d, .int .i64 x.s.e, .int .i64 x.s.f, .int .i64 x.s.g, .int .i64 x.s.h, .int .i64 x.s.r, .int .i64 x.p, .int .i64 x.q] 34)).cell? ((⟨wd.heap.size, 0, none⟩ : Addr).add j) = some u at HNC
            generalize wd.alloc (.cells #[.int .i64 x.s.a, .int .i64 x.s.b, .int .i64 x.s.c, .int .i64 x.s.d, .int .i64 x.s.e, .int .i64 x.s.f, .int .i64 x.s.g, .int .i64 x.s.h, .int .i64 x.s.r, .int .i64 x.p, .int .i64 x.q] 34) = wq at *
            replace HNC := Hid.mk HNC
            refine wpAny_ready (rs := [7]) (by kernel_rfl) (by simp) ?_
            refine AllReady.cons (o := _) rfl (fun K0 hK0 => ?_) AllReady.nil
            have OLT := Hid.mk O.lt
            have TL : Q + 1 ≤ wq.heap.size := by omega
            rw [if_pos (by rfl)]
            refine wp_putRule _ _ _ rfl (Q + 1) c d (trL xs k) j HJ.out rfl O (⟨wd.heap.size, 0, none⟩) 1 x rfl HNC.out (by omega) TL ?_
            intro c4 d4 w4 O4 hg4 hx4
            rw [← hno.out] at O4
            have VO4 := VO.grownR hg4 (row_ne F2.out)
            have VR4 := VR.grownR hg4 (row_ne F3.out)
            have RS4 := rd_far RS hg4 (fun b hb b' hb' e => by have h1 := (OLT.out b hb).1; simp only [Option.some.injEq] at hb'; subst hb'; simp only at e; omega)
            have B4 := belowG B hg4 (by omega) (fun b hb => by have := (OLT.out b hb).1; omega)
            refine hK0 _ _ ?_
            clear hK0 K0 O VO VR RS B hg4 hx4 OLT TL HNC
            try simp only [Act.put, List.getElem_toArray, List.getElem_cons_zero, List.getElem_cons_succ, List.setIfInBounds_toArray, List.set_cons_zero, List.set_cons_succ]
            refine wpAny_take (i := 8) (oi := _) (v := ?vtz1) rfl (by kernel_rfl) (by kernel_rfl) (by kernel_rfl) (fun _ _ _ h => h) (Or.inl ⟨by rfl, ?hytz1⟩) ?resttz1
            case hytz1 => (intro w; go_simp; first | done | with_reducible rfl)
            try simp only [Act.put, List.getElem_toArray, List.getElem_cons_zero, List.getElem_cons_succ, List.setIfInBounds_toArray, List.set_cons_zero, List.set_cons_succ]
            refine wpAny_ready (rs := [9]) (by kernel_rfl) (by simp) ?_
            refine AllReady.cons (o := _) rfl (fun K0 hK0 => ?_) AllReady.nil
            obtain ⟨s_VO, f_VO, z_VO⟩ := VO4.open
            go_simp
            refine hK0 _ _ ?_
            clear hK0 K0 s_VO f_VO z_VO
            refine wpAny_done (by kernel_rfl) ?_ _
            have VO5 := VO4.set (i := 1) (by simp) (.slice c4 (j + 1) d4)
            simp only [List.set_cons_zero, List.set_cons_succ] at VO5
            have O6 := Hid.mk (O4.below (p := ⟨Q, 1, none⟩) (Nat.lt_succ_self _) (.slice c4 (j + 1) d4))
            have VR6 := Hid.mk (VR4.other (p := ⟨Q, 1, none⟩) (by simp only; omega) (.slice c4 (j + 1) d4))
            have RS6 := Hid.mk (rd_set (p := ⟨Q, 1, none⟩) RS4 (by intro b hb e; simp only [Option.some.injEq] at hb; subst hb; simp only at e; omega) (.slice c4 (j + 1) d4))
            have B6 := Hid.mk (B4.setCell (p := ⟨Q, 1, none⟩) (by simp only; omega) (.slice c4 (j + 1) d4))
            have VO6 := Hid.mk VO5
            have hl6 : Hid ((trL xs (k + 1)).length = j + 1) := Hid.mk (by rw [hno.out, List.length_append, HJ.out]; rfl)
            clear VO5 O4 VR4 RS4 B4 VO4
            go_wp2
            go_roundw
            case rel => exact ⟨k + 1, d4, j + 1, c4, by omega, by go_num, hl6.out, O6.out, VR6.out, VO6.out, RS6.out, B6.out⟩
            case measure => simp [intOf]; omega
          · skip
            go_simp
            refine hK0 _ _ ?_
            clear hK0 K0 p0 p1 p2 p3 p4 p5 p6 p7 p8 p9 p10
            try simp only [Act.put, List.getElem_toArray, List.getElem_cons_zero, List.getElem_cons_succ, List.setIfInBounds_toArray, List.set_cons_zero, List.set_cons_succ]
            refine wpAny_ready (rs := [1, 6]) (by kernel_rfl) (by simp) ?_
            refine AllReady.cons (o := _) rfl (fun K0 hK0 => ?_) (AllReady.cons (o := _) rfl (fun K0 hK0 => ?_) AllReady.nil)
            · skip
              obtain ⟨s_VO, f_VO, z_VO⟩ := VO.open
              go_simp
              refine hK0 _ _ ?_
              clear hK0 K0 s_VO f_VO z_VO
              try simp only [Act.put, List.getElem_toArray, List.getElem_cons_zero, List.getElem_cons_succ, List.setIfInBounds_toArray, List.set_cons_zero, List.set_cons_succ]
              refine wpAny_ready (rs := [6]) (by kernel_rfl) (by simp) ?_
              refine AllReady.cons (o := _) rfl (fun K0 hK0 => ?_) AllReady.nil
              go_simp
              refine hK0 _ _ ?_
              clear hK0 K0
              try simp only [Act.put, List.getElem_toArray, List.getElem_cons_zero, List.getElem_cons_succ, List.setIfInBounds_toArray, List.set_cons_zero, List.set_cons_succ]
              have bq := belowA wd (.cells #[.int .i64 x.s.a, .int .i64 x.s.b, .int .i64 x.s.c, .int .i64 x.s.d, .int .i64 x.s.e, .int .i64 x.s.f, .int .i64 x.s.g, .int .i64 x.s.h, .int .i64 x.s.r, .int .i64 x.p, .int .i64 x.q] 34)
              have HNC := newCells wd 34 (rowRule x)
              have hsq : (wd.alloc (.cells #[.int .i64 x.s.a, .int .i64 x.s.b, .int .i64 x.s.c, .int .i64 x.s.d, .int .i64 x.s.e, .int .i64 x.s.f, .int .i64 x.s.g, .int .i64 x.s.h, .int .i64 x.s.r, .int .i64 x.p, .int .i64 x.q] 34)).heap.size = wd.heap.size + 1 := by simp
              replace O := O.kept bq
              replace VR := VR.kept bq
              replace VO := VO.kept bq
              replace RS := RS.kept bq
              replace B := thenB B bq
              change ∀ j u, (rowRule x)[j]? = some u → (wd.alloc (.cells #[.int .i64 x.s.a, .int .i64 x.s.b, .int .i64 x.s.c, .int .i64 x.s.d, .int .i64 x.s.e, .int .i64 x.s.f, .int .i64 x.s.g, .int .i64 x.s.h, .int .i64 x.s.r, .int .i64 x.p, .int .i64 x.q] 34)).cell? ((⟨wd.heap.size, 0, none⟩ : Addr).add j) = some u at HNC
              generalize wd.alloc (.cells #[.int .i64 x.s.a, .int .i64 x.s.b, .int .i64 x.s.c, .int .i64 x.s.d, .int .i64 x.s.e, .int .i64 x.s.f, .int .i64 x.s.g, .int .i64 x.s.h, .int .i64 x.s.r, .int .i64 x.p, .int .i64 x.q] 34) = wq at *
              replace HNC := Hid.mk HNC
              refine wpAny_ready (rs := [7]) (by kernel_rfl) (by simp) ?_
              refine AllReady.cons (o := _) rfl (fun K0 hK0 => ?_) AllReady.nil
              have OLT := Hid.mk O.lt
              have TL : Q + 1 ≤ wq.heap.size := by omega
              rw [if_pos (by rfl)]
              refine wp_putRule _ _ _ rfl (Q + 1) c d (trL xs k) j HJ.out rfl O (⟨wd.heap.size, 0, none⟩) 1 x rfl HNC.out (by omega) TL ?_
              intro c4 d4 w4 O4 hg4 hx4
              rw [← hno.out] at O4
              have VO4 := VO.grownR hg4 (row_ne F2.out)
              have VR4 := VR.grownR hg4 (row_ne F3.out)
              have RS4 := rd_far RS hg4 (fun b hb b' hb' e => by have h1 := (OLT.out b hb).1; simp only [Option.some.injEq] at hb'; subst hb'; simp only at e; omega)
              have B4 := belowG B hg4 (by omega) (fun b hb => by have := (OLT.out b hb).1; omega)
              refine hK0 _ _ ?_
              clear hK0 K0 O VO VR RS B hg4 hx4 OLT TL HNC
              try simp only [Act.put, List.getElem_toArray, List.getElem_cons_zero, List.getElem_cons_succ, List.setIfInBounds_toArray, List.set_cons_zero, List.set_cons_succ]
              refine wpAny_take (i := 8) (oi := _) (v := ?vtz2) rfl (by kernel_rfl) (by kernel_rfl) (by kernel_rfl) (fun _ _ _ h => h) (Or.inl ⟨by rfl, ?hytz2⟩) ?resttz2
              case hytz2 => (intro w; go_simp; first | done | with_reducible rfl)
              try simp only [Act.put, List.getElem_toArray, List.getElem_cons_zero, List.getElem_cons_succ, List.setIfInBounds_toArray, List.set_cons_zero, List.set_cons_succ]
              refine wpAny_ready (rs := [9]) (by kernel_rfl) (by simp) ?_
              refine AllReady.cons (o := _) rfl (fun K0 hK0 => ?_) AllReady.nil
              obtain ⟨s_VO, f_VO, z_VO⟩ := VO4.open
              go_simp
              refine hK0 _ _ ?_
              clear hK0 K0 s_VO f_VO z_VO
              refine wpAny_done (by kernel_rfl) ?_ _
              have VO5 := VO4.set (i := 1) (by simp) (.slice c4 (j + 1) d4)
              simp only [List.set_cons_zero, List.set_cons_succ] at VO5
              have O6 := Hid.mk (O4.below (p := ⟨Q, 1, none⟩) (Nat.lt_succ_self _) (.slice c4 (j + 1) d4))
              have VR6 := Hid.mk (VR4.other (p := ⟨Q, 1, none⟩) (by simp only; omega) (.slice c4 (j + 1) d4))
              have RS6 := Hid.mk (rd_set (p := ⟨Q, 1, none⟩) RS4 (by intro b hb e; simp only [Option.some.injEq] at hb; subst hb; simp only at e; omega) (.slice c4 (j + 1) d4))
              have B6 := Hid.mk (B4.setCell (p := ⟨Q, 1, none⟩) (by simp only; omega) (.slice c4 (j + 1) d4))
              have VO6 := Hid.mk VO5
              have hl6 : Hid ((trL xs (k + 1)).length = j + 1) := Hid.mk (by rw [hno.out, List.length_append, HJ.out]; rfl)
              clear VO5 O4 VR4 RS4 B4 VO4
              go_wp2
              go_roundw
              case rel => exact ⟨k + 1, d4, j + 1, c4, by omega, by go_num, hl6.out, O6.out, VR6.out, VO6.out, RS6.out, B6.out⟩
              case measure => simp [intOf]; omega
            · skip
              go_simp
              refine hK0 _ _ ?_
              clear hK0 K0
              try simp only [Act.put, List.getElem_toArray, List.getElem_cons_zero, List.getElem_cons_succ, List.setIfInBounds_toArray, List.set_cons_zero, List.set_cons_succ]
              have bq := belowA wd (.cells #[.int .i64 x.s.a, .int .i64 x.s.b, .int .i64 x.s.c, .int .i64 x.s.d, .int .i64 x.s.e, .int .i64 x.s.f, .int .i64 x.s.g, .int .i64 x.s.h, .int .i64 x.s.r, .int .i64 x.p, .int .i64 x.q] 34)
              have HNC := newCells wd 34 (rowRule x)
              have hsq : (wd.alloc (.cells #[.int .i64 x.s.a, .int .i64 x.s.b, .int .i64 x.s.c, .int .i64 x.s.d, .int .i64 x.s.e, .int .i64 x.s.f, .int .i64 x.s.g, .int .i64 x.s.h, .int .i64 x.s.r, .int .i64 x.p, .int .i64 x.q] 34)).heap.size = wd.heap.size + 1 := by simp
              replace O := O.kept bq
              replace VR := VR.kept bq
              replace VO := VO.kept bq
              replace RS := RS.kept bq
              replace B := thenB B bq
              change ∀ j u, (rowRule x)[j]? = some u → (wd.alloc (.cells #[.int .i64 x.s.a, .int .i64 x.s.b, .int .i64 x.s.c, .int .i64 x.s.d, .int .i64 x.s.e, .int .i64 x.s.f, .int .i64 x.s.g, .int .i64 x.s.h, .int .i64 x.s.r, .int .i64 x.p, .int .i64 x.q] 34)).cell? ((⟨wd.heap.size, 0, none⟩ : Addr).add j) = some u at HNC
              generalize wd.alloc (.cells #[.int .i64 x.s.a, .int .i64 x.s.b, .int .i64 x.s.c, .int .i64 x.s.d, .int .i64 x.s.e, .int .i64 x.s.f, .int .i64 x.s.g, .int .i64 x.s.h, .int .i64 x.s.r, .int .i64 x.p, .int .i64 x.q] 34) = wq at *
              replace HNC := Hid.mk HNC
              refine wpAny_ready (rs := [1]) (by kernel_rfl) (by simp) ?_
              refine AllReady.cons (o := _) rfl (fun K0 hK0 => ?_) AllReady.nil
              obtain ⟨s_VO, f_VO, z_VO⟩ := VO.open
              go_simp
              refine hK0 _ _ ?_
              clear hK0 K0 s_VO f_VO z_VO
              try simp only [Act.put, List.getElem_toArray, List.getElem_cons_zero, List.getElem_cons_succ, List.setIfInBounds_toArray, List.set_cons_zero, List.set_cons_succ]
              refine wpAny_ready (rs := [7]) (by kernel_rfl) (by simp) ?_
              refine AllReady.cons (o := _) rfl (fun K0 hK0 => ?_) AllReady.nil
              have OLT := Hid.mk O.lt
              have TL : Q + 1 ≤ wq.heap.size := by omega
              rw [if_pos (by rfl)]
              refine wp_putRule _ _ _ rfl (Q + 1) c d (trL xs k) j HJ.out rfl O (⟨wd.heap.size, 0, none⟩) 1 x rfl HNC.out (by omega) TL ?_
              intro c4 d4 w4 O4 hg4 hx4
              rw [← hno.out] at O4
              have VO4 := VO.grownR hg4 (row_ne F2.out)
              have VR4 := VR.grownR hg4 (row_ne F3.out)
              have RS4 := rd_far RS hg4 (fun b hb b' hb' e => by have h1 := (OLT.out b hb).1; simp only [Option.some.injEq] at hb'; subst hb'; simp only at e; omega)
              have B4 := belowG B hg4 (by omega) (fun b hb => by have := (OLT.out b hb).1; omega)
              refine hK0 _ _ ?_
              clear hK0 K0 O VO VR RS B hg4 hx4 OLT TL HNC
              try simp only [Act.put, List.getElem_toArray, List.getElem_cons_zero, List.getElem_cons_succ, List.setIfInBounds_toArray, List.set_cons_zero, List.set_cons_succ]
              refine wpAny_take (i := 8) (oi := _) (v := ?vtz3) rfl (by kernel_rfl) (by kernel_rfl) (by kernel_rfl) (fun _ _ _ h => h) (Or.inl ⟨by rfl, ?hytz3⟩) ?resttz3
              case hytz3 => (intro w; go_simp; first | done | with_reducible rfl)
              try simp only [Act.put, List.getElem_toArray, List.getElem_cons_zero, List.getElem_cons_succ, List.setIfInBounds_toArray, List.set_cons_zero, List.set_cons_succ]
              refine wpAny_ready (rs := [9]) (by kernel_rfl) (by simp) ?_
              refine AllReady.cons (o := _) rfl (fun K0 hK0 => ?_) AllReady.nil
              obtain ⟨s_VO, f_VO, z_VO⟩ := VO4.open
              go_simp
              refine hK0 _ _ ?_
              clear hK0 K0 s_VO f_VO z_VO
              refine wpAny_done (by kernel_rfl) ?_ _
              have VO5 := VO4.set (i := 1) (by simp) (.slice c4 (j + 1) d4)
              simp only [List.set_cons_zero, List.set_cons_succ] at VO5
              have O6 := Hid.mk (O4.below (p := ⟨Q, 1, none⟩) (Nat.lt_succ_self _) (.slice c4 (j + 1) d4))
              have VR6 := Hid.mk (VR4.other (p := ⟨Q, 1, none⟩) (by simp only; omega) (.slice c4 (j + 1) d4))
              have RS6 := Hid.mk (rd_set (p := ⟨Q, 1, none⟩) RS4 (by intro b hb e; simp only [Option.some.injEq] at hb; subst hb; simp only at e; omega) (.slice c4 (j + 1) d4))
              have B6 := Hid.mk (B4.setCell (p := ⟨Q, 1, none⟩) (by simp only; omega) (.slice c4 (j + 1) d4))
              have VO6 := Hid.mk VO5
              have hl6 : Hid ((trL xs (k + 1)).length = j + 1) := Hid.mk (by rw [hno.out, List.length_append, HJ.out]; rfl)
              clear VO5 O4 VR4 RS4 B4 VO4
              go_wp2
              go_roundw
              case rel => exact ⟨k + 1, d4, j + 1, c4, by omega, by go_num, hl6.out, O6.out, VR6.out, VO6.out, RS6.out, B6.out⟩
              case measure => simp [intOf]; omega
        · skip
          clear s_VR f_VR z_VR s_VO f_VO z_VO
          have hyes := Hid.mk (trL_yes hg)
          replace O := Hid.mk O
          replace VR := Hid.mk VR
          replace VO := Hid.mk VO
          replace RS := Hid.mk RS
          replace B := Hid.mk B
          clear Bo
          go_wp2
          go_roundw
          case rel => exact ⟨k + 1, d, j, c, by omega, by go_num, by rw [hyes.out]; exact HJ.out, by rw [hyes.out]; exact O.out, VR.out, VO.out, RS.out, B.out⟩
          case measure => simp [intOf]; omega
      · obtain rfl : k = n := by omega
        have HO := Hid.mk (O.mono (show w.heap.size ≤ _ by omega))
        have HK := Hid.mk hj
        have HC := Hid.mk (fun b hb => (O.lt b hb).1)
        clear O hj RS
        obtain ⟨s_VR, f_VR, z_VR⟩ := VR.open
        obtain ⟨s_VO, f_VO, z_VO⟩ := VO.open
        have Bo := B
        clear s_VR f_VR z_VR s_VO f_VO z_VO
        have VF := Hid.mk (VR.filled [.int .i64 0, .slice c j d] rfl)
        have BR := belowCells B (show w.heap.size ≤ w.heap.size by (first | omega | (simp; done) | (simp; omega))) 0 [.int .i64 0, .slice c j d]
        have HT := Hid.mk VR.there
        replace BR := Hid.mk BR
        obtain ⟨s_VR, f_VR, z_VR⟩ := VR.open
        obtain ⟨s_VO, f_VO, z_VO⟩ := VO.open
        go_wp2_with (refine wpList_store_mid rfl 45 _ _ rfl (w.heap.size) 0 #[.int .i64 0, .slice c j d] rfl rfl HT.out (by kernel_rfl) (by kernel_rfl) ?_)
        refine bodyPost_ret (v := .agg #[.int .i64 0, .slice c j d]) (results_row Tryd.results21 _ _ (w.heap.size) [.int .i64 0, .slice c j d] _ rfl VF.out Tryd.underlying45 rfl (by kernel_rfl)) rfl ⟨c, d, j, rfl, HK.out, HO.out.apart (by intro b hb; have := HC.out b hb; omega) _ _, BR.out⟩

end Go.Proofs.YtngkahchhioncaaDoor

/- Rules change places: the program. -/
namespace Go.Proofs.YtngkahchhioncaaDoor
open Go.RowKit

/-- Two rules may change places. -/
@[irreducible] def mcB (x y : R11) : Bool := (mtC x.s y.s != 0) || ((x.p == y.p) && (x.q == y.q))

theorem mc_ways (x y : R11) :
    ((mtC x.s y.s != 0) = true ∧ mcB x y = true) ∨
    (mtC x.s y.s = 0 ∧ (x.p == y.p) = false ∧ mcB x y = false) ∨
    (mtC x.s y.s = 0 ∧ (x.p == y.p) = true ∧ (x.q == y.q) = false ∧ mcB x y = false) ∨
    (mtC x.s y.s = 0 ∧ (x.p == y.p) = true ∧ (x.q == y.q) = true ∧ mcB x y = true) := by
  unfold mcB
  by_cases h : mtC x.s y.s = 0
  · simp only [h]
    cases (x.p == y.p) <;> cases (x.q == y.q) <;> simp
  · left; simp [h]

theorem sw_ways2 (xs : List R11) (t : Int) :
    ((pyC xs != 0) = true ∧ swC xs t = pyC xs ∧ swL xs t = []) ∨
    (pyC xs = 0 ∧ btw t 0 ((xs.length : Int) - 2) = false ∧ swC xs t = 3 ∧ swL xs t = []) ∨
    ∃ (k : Nat) (x y : R11), t = (k : Int) ∧ k + 1 < xs.length ∧ pyC xs = 0 ∧ btw t 0 ((xs.length : Int) - 2) = true ∧ xs.getD k zRule = x ∧ xs.getD (k + 1) zRule = y ∧
      ((mcB x y = false ∧ swC xs t = 1 ∧ swL xs t = []) ∨ (mcB x y = true ∧ swC xs t = 0 ∧ swL xs t = (xs.set k y).set (k + 1) x)) := by
  rcases sw_ways xs t with ⟨h1, _, e1, e2⟩ | ⟨h1, h2, e1, e2⟩ | ⟨k, rfl, hk, h1, h2, hw⟩
  · exact .inl ⟨h1, e1, e2⟩
  · exact .inr (.inl ⟨h1, h2, e1, e2⟩)
  · refine .inr (.inr ⟨k, _, _, rfl, hk, h1, h2, rfl, rfl, ?_⟩)
    generalize xs.getD k zRule = x at *
    generalize xs.getD (k + 1) zRule = y at *
    rcases mc_ways x y with ⟨m1, m2⟩ | ⟨m1, m3, m2⟩ | ⟨m1, m3, m4, m2⟩ | ⟨m1, m3, m4, m2⟩
    · rcases hw with ⟨h5, _⟩ | ⟨h5, _⟩ | ⟨h5, _⟩ | ⟨_, e1, e2⟩
      · rw [h5] at m1; simp at m1
      · rw [h5] at m1; simp at m1
      · rw [h5] at m1; simp at m1
      · exact .inr ⟨m2, e1, e2⟩
    · rcases hw with ⟨_, h6, e1, e2⟩ | ⟨_, h6, _⟩ | ⟨_, h6, _⟩ | ⟨h5, _⟩
      · exact .inl ⟨m2, e1, e2⟩
      · rw [bne, m3] at h6; cases h6
      · rw [bne, m3] at h6; cases h6
      · rw [m1] at h5; simp at h5
    · rcases hw with ⟨_, h6, _⟩ | ⟨_, _, h7, e1, e2⟩ | ⟨_, _, h7, _⟩ | ⟨h5, _⟩
      · rw [bne, m3] at h6; cases h6
      · exact .inl ⟨m2, e1, e2⟩
      · rw [bne, m4] at h7; cases h7
      · rw [m1] at h5; simp at h5
    · rcases hw with ⟨_, h6, _⟩ | ⟨_, _, h7, _⟩ | ⟨_, _, _, e1, e2⟩ | ⟨h5, _⟩
      · rw [bne, m3] at h6; cases h6
      · rw [bne, m4] at h7; cases h7
      · exact .inr ⟨m2, e1, e2⟩
      · rw [m1] at h5; simp at h5

set_option maxRecDepth 20000 in
set_option maxHeartbeats 4000000 in
theorem mayChange_ok (x y : R11) (w : World) :
    Calls Tryd.prog 71 #[.agg #[.int .i64 x.s.a, .int .i64 x.s.b, .int .i64 x.s.c, .int .i64 x.s.d, .int .i64 x.s.e, .int .i64 x.s.f, .int .i64 x.s.g, .int .i64 x.s.h, .int .i64 x.s.r, .int .i64 x.p, .int .i64 x.q], .agg #[.int .i64 y.s.a, .int .i64 y.s.b, .int .i64 y.s.c, .int .i64 y.s.d, .int .i64 y.s.e, .int .i64 y.s.f, .int .i64 y.s.g, .int .i64 y.s.h, .int .i64 y.s.r, .int .i64 y.p, .int .i64 y.q]] w fun e w' => e = .returned (.bool (mcB x y)) ∧ Below w.heap.size w w' := by
  have CM := Hid.mk (fun w => implMeetSels_ok x.s y.s w)
  have q2 := fieldMeet
  have hw := mc_ways x y
  generalize mcB x y = r at *
  generalize mtC x.s y.s = mm at *
  generalize mtS x.s y.s = z at *
  rcases hw with ⟨m1, rfl⟩ | ⟨rfl, m3, rfl⟩ | ⟨rfl, m3, m4, rfl⟩ | ⟨rfl, m3, m4, rfl⟩
  · skip
    go_enter Tryd.func71, Tryd.ntmps71
    have B := Below.refl w.heap.size w
    replace B := thenB B (belowA w (.cells #[.int .i64 x.s.a, .int .i64 x.s.b, .int .i64 x.s.c, .int .i64 x.s.d, .int .i64 x.s.e, .int .i64 x.s.f, .int .i64 x.s.g, .int .i64 x.s.h, .int .i64 x.s.r, .int .i64 x.p, .int .i64 x.q] 34))
    have VX := V.new w [.int .i64 x.s.a, .int .i64 x.s.b, .int .i64 x.s.c, .int .i64 x.s.d, .int .i64 x.s.e, .int .i64 x.s.f, .int .i64 x.s.g, .int .i64 x.s.h, .int .i64 x.s.r, .int .i64 x.p, .int .i64 x.q] 34
    replace VX := VX.kept (belowA (w.alloc (.cells #[.int .i64 x.s.a, .int .i64 x.s.b, .int .i64 x.s.c, .int .i64 x.s.d, .int .i64 x.s.e, .int .i64 x.s.f, .int .i64 x.s.g, .int .i64 x.s.h, .int .i64 x.s.r, .int .i64 x.p, .int .i64 x.q] 34)) (.cells #[.int .i64 y.s.a, .int .i64 y.s.b, .int .i64 y.s.c, .int .i64 y.s.d, .int .i64 y.s.e, .int .i64 y.s.f, .int .i64 y.s.g, .int .i64 y.s.h, .int .i64 y.s.r, .int .i64 y.p, .int .i64 y.q] 34))
    replace B := thenB B (belowA (w.alloc (.cells #[.int .i64 x.s.a, .int .i64 x.s.b, .int .i64 x.s.c, .int .i64 x.s.d, .int .i64 x.s.e, .int .i64 x.s.f, .int .i64 x.s.g, .int .i64 x.s.h, .int .i64 x.s.r, .int .i64 x.p, .int .i64 x.q] 34)) (.cells #[.int .i64 y.s.a, .int .i64 y.s.b, .int .i64 y.s.c, .int .i64 y.s.d, .int .i64 y.s.e, .int .i64 y.s.f, .int .i64 y.s.g, .int .i64 y.s.h, .int .i64 y.s.r, .int .i64 y.p, .int .i64 y.q] 34))
    have VY : V ((w.alloc (.cells #[.int .i64 x.s.a, .int .i64 x.s.b, .int .i64 x.s.c, .int .i64 x.s.d, .int .i64 x.s.e, .int .i64 x.s.f, .int .i64 x.s.g, .int .i64 x.s.h, .int .i64 x.s.r, .int .i64 x.p, .int .i64 x.q] 34)).alloc (.cells #[.int .i64 y.s.a, .int .i64 y.s.b, .int .i64 y.s.c, .int .i64 y.s.d, .int .i64 y.s.e, .int .i64 y.s.f, .int .i64 y.s.g, .int .i64 y.s.h, .int .i64 y.s.r, .int .i64 y.p, .int .i64 y.q] 34)) (w.heap.size + 1) [.int .i64 y.s.a, .int .i64 y.s.b, .int .i64 y.s.c, .int .i64 y.s.d, .int .i64 y.s.e, .int .i64 y.s.f, .int .i64 y.s.g, .int .i64 y.s.h, .int .i64 y.s.r, .int .i64 y.p, .int .i64 y.q] := V.newAt _ _ _ _ (by simp)
    obtain ⟨s_VX, f_VX, z_VX⟩ := VX.open
    obtain ⟨s_VY, f_VY, z_VY⟩ := VY.open
    have Bo := B
    go_wp2_with fail
    refine (CM.out _).mono ?_
    rintro e w1 ⟨rfl, b1⟩
    clear s_VX f_VX z_VX s_VY f_VY z_VY
    have S1 := b1.size
    simp only [World.size_alloc] at S1
    replace VX := VX.kept b1
    replace VY := VY.kept b1
    replace B := thenB B b1
    clear b1
    obtain ⟨s_VX, f_VX, z_VX⟩ := VX.open
    obtain ⟨s_VY, f_VY, z_VY⟩ := VY.open
    have Bo := B
    go_wp2
    go_ret
    exact ⟨rfl, B⟩
  · skip
    go_enter Tryd.func71, Tryd.ntmps71
    have B := Below.refl w.heap.size w
    replace B := thenB B (belowA w (.cells #[.int .i64 x.s.a, .int .i64 x.s.b, .int .i64 x.s.c, .int .i64 x.s.d, .int .i64 x.s.e, .int .i64 x.s.f, .int .i64 x.s.g, .int .i64 x.s.h, .int .i64 x.s.r, .int .i64 x.p, .int .i64 x.q] 34))
    have VX := V.new w [.int .i64 x.s.a, .int .i64 x.s.b, .int .i64 x.s.c, .int .i64 x.s.d, .int .i64 x.s.e, .int .i64 x.s.f, .int .i64 x.s.g, .int .i64 x.s.h, .int .i64 x.s.r, .int .i64 x.p, .int .i64 x.q] 34
    replace VX := VX.kept (belowA (w.alloc (.cells #[.int .i64 x.s.a, .int .i64 x.s.b, .int .i64 x.s.c, .int .i64 x.s.d, .int .i64 x.s.e, .int .i64 x.s.f, .int .i64 x.s.g, .int .i64 x.s.h, .int .i64 x.s.r, .int .i64 x.p, .int .i64 x.q] 34)) (.cells #[.int .i64 y.s.a, .int .i64 y.s.b, .int .i64 y.s.c, .int .i64 y.s.d, .int .i64 y.s.e, .int .i64 y.s.f, .int .i64 y.s.g, .int .i64 y.s.h, .int .i64 y.s.r, .int .i64 y.p, .int .i64 y.q] 34))
    replace B := thenB B (belowA (w.alloc (.cells #[.int .i64 x.s.a, .int .i64 x.s.b, .int .i64 x.s.c, .int .i64 x.s.d, .int .i64 x.s.e, .int .i64 x.s.f, .int .i64 x.s.g, .int .i64 x.s.h, .int .i64 x.s.r, .int .i64 x.p, .int .i64 x.q] 34)) (.cells #[.int .i64 y.s.a, .int .i64 y.s.b, .int .i64 y.s.c, .int .i64 y.s.d, .int .i64 y.s.e, .int .i64 y.s.f, .int .i64 y.s.g, .int .i64 y.s.h, .int .i64 y.s.r, .int .i64 y.p, .int .i64 y.q] 34))
    have VY : V ((w.alloc (.cells #[.int .i64 x.s.a, .int .i64 x.s.b, .int .i64 x.s.c, .int .i64 x.s.d, .int .i64 x.s.e, .int .i64 x.s.f, .int .i64 x.s.g, .int .i64 x.s.h, .int .i64 x.s.r, .int .i64 x.p, .int .i64 x.q] 34)).alloc (.cells #[.int .i64 y.s.a, .int .i64 y.s.b, .int .i64 y.s.c, .int .i64 y.s.d, .int .i64 y.s.e, .int .i64 y.s.f, .int .i64 y.s.g, .int .i64 y.s.h, .int .i64 y.s.r, .int .i64 y.p, .int .i64 y.q] 34)) (w.heap.size + 1) [.int .i64 y.s.a, .int .i64 y.s.b, .int .i64 y.s.c, .int .i64 y.s.d, .int .i64 y.s.e, .int .i64 y.s.f, .int .i64 y.s.g, .int .i64 y.s.h, .int .i64 y.s.r, .int .i64 y.p, .int .i64 y.q] := V.newAt _ _ _ _ (by simp)
    obtain ⟨s_VX, f_VX, z_VX⟩ := VX.open
    obtain ⟨s_VY, f_VY, z_VY⟩ := VY.open
    have Bo := B
    go_wp2_with fail
    refine (CM.out _).mono ?_
    rintro e w11 ⟨rfl, b11⟩
    clear s_VX f_VX z_VX s_VY f_VY z_VY
    have S11 := b11.size
    simp only [World.size_alloc] at S11
    replace VX := VX.kept b11
    replace VY := VY.kept b11
    replace B := thenB B b11
    clear b11
    obtain ⟨s_VX, f_VX, z_VX⟩ := VX.open
    obtain ⟨s_VY, f_VY, z_VY⟩ := VY.open
    have Bo := B
    go_wp2
    go_ret
    exact ⟨rfl, B⟩
  · skip
    go_enter Tryd.func71, Tryd.ntmps71
    have B := Below.refl w.heap.size w
    replace B := thenB B (belowA w (.cells #[.int .i64 x.s.a, .int .i64 x.s.b, .int .i64 x.s.c, .int .i64 x.s.d, .int .i64 x.s.e, .int .i64 x.s.f, .int .i64 x.s.g, .int .i64 x.s.h, .int .i64 x.s.r, .int .i64 x.p, .int .i64 x.q] 34))
    have VX := V.new w [.int .i64 x.s.a, .int .i64 x.s.b, .int .i64 x.s.c, .int .i64 x.s.d, .int .i64 x.s.e, .int .i64 x.s.f, .int .i64 x.s.g, .int .i64 x.s.h, .int .i64 x.s.r, .int .i64 x.p, .int .i64 x.q] 34
    replace VX := VX.kept (belowA (w.alloc (.cells #[.int .i64 x.s.a, .int .i64 x.s.b, .int .i64 x.s.c, .int .i64 x.s.d, .int .i64 x.s.e, .int .i64 x.s.f, .int .i64 x.s.g, .int .i64 x.s.h, .int .i64 x.s.r, .int .i64 x.p, .int .i64 x.q] 34)) (.cells #[.int .i64 y.s.a, .int .i64 y.s.b, .int .i64 y.s.c, .int .i64 y.s.d, .int .i64 y.s.e, .int .i64 y.s.f, .int .i64 y.s.g, .int .i64 y.s.h, .int .i64 y.s.r, .int .i64 y.p, .int .i64 y.q] 34))
    replace B := thenB B (belowA (w.alloc (.cells #[.int .i64 x.s.a, .int .i64 x.s.b, .int .i64 x.s.c, .int .i64 x.s.d, .int .i64 x.s.e, .int .i64 x.s.f, .int .i64 x.s.g, .int .i64 x.s.h, .int .i64 x.s.r, .int .i64 x.p, .int .i64 x.q] 34)) (.cells #[.int .i64 y.s.a, .int .i64 y.s.b, .int .i64 y.s.c, .int .i64 y.s.d, .int .i64 y.s.e, .int .i64 y.s.f, .int .i64 y.s.g, .int .i64 y.s.h, .int .i64 y.s.r, .int .i64 y.p, .int .i64 y.q] 34))
    have VY : V ((w.alloc (.cells #[.int .i64 x.s.a, .int .i64 x.s.b, .int .i64 x.s.c, .int .i64 x.s.d, .int .i64 x.s.e, .int .i64 x.s.f, .int .i64 x.s.g, .int .i64 x.s.h, .int .i64 x.s.r, .int .i64 x.p, .int .i64 x.q] 34)).alloc (.cells #[.int .i64 y.s.a, .int .i64 y.s.b, .int .i64 y.s.c, .int .i64 y.s.d, .int .i64 y.s.e, .int .i64 y.s.f, .int .i64 y.s.g, .int .i64 y.s.h, .int .i64 y.s.r, .int .i64 y.p, .int .i64 y.q] 34)) (w.heap.size + 1) [.int .i64 y.s.a, .int .i64 y.s.b, .int .i64 y.s.c, .int .i64 y.s.d, .int .i64 y.s.e, .int .i64 y.s.f, .int .i64 y.s.g, .int .i64 y.s.h, .int .i64 y.s.r, .int .i64 y.p, .int .i64 y.q] := V.newAt _ _ _ _ (by simp)
    obtain ⟨s_VX, f_VX, z_VX⟩ := VX.open
    obtain ⟨s_VY, f_VY, z_VY⟩ := VY.open
    have Bo := B
    go_wp2_with fail
    refine (CM.out _).mono ?_
    rintro e w21 ⟨rfl, b21⟩
    clear s_VX f_VX z_VX s_VY f_VY z_VY
    have S21 := b21.size
    simp only [World.size_alloc] at S21
    replace VX := VX.kept b21
    replace VY := VY.kept b21
    replace B := thenB B b21
    clear b21
    obtain ⟨s_VX, f_VX, z_VX⟩ := VX.open
    obtain ⟨s_VY, f_VY, z_VY⟩ := VY.open
    have Bo := B
    go_wp2
    go_ret
    exact ⟨rfl, B⟩
  · skip
    go_enter Tryd.func71, Tryd.ntmps71
    have B := Below.refl w.heap.size w
    replace B := thenB B (belowA w (.cells #[.int .i64 x.s.a, .int .i64 x.s.b, .int .i64 x.s.c, .int .i64 x.s.d, .int .i64 x.s.e, .int .i64 x.s.f, .int .i64 x.s.g, .int .i64 x.s.h, .int .i64 x.s.r, .int .i64 x.p, .int .i64 x.q] 34))
    have VX := V.new w [.int .i64 x.s.a, .int .i64 x.s.b, .int .i64 x.s.c, .int .i64 x.s.d, .int .i64 x.s.e, .int .i64 x.s.f, .int .i64 x.s.g, .int .i64 x.s.h, .int .i64 x.s.r, .int .i64 x.p, .int .i64 x.q] 34
    replace VX := VX.kept (belowA (w.alloc (.cells #[.int .i64 x.s.a, .int .i64 x.s.b, .int .i64 x.s.c, .int .i64 x.s.d, .int .i64 x.s.e, .int .i64 x.s.f, .int .i64 x.s.g, .int .i64 x.s.h, .int .i64 x.s.r, .int .i64 x.p, .int .i64 x.q] 34)) (.cells #[.int .i64 y.s.a, .int .i64 y.s.b, .int .i64 y.s.c, .int .i64 y.s.d, .int .i64 y.s.e, .int .i64 y.s.f, .int .i64 y.s.g, .int .i64 y.s.h, .int .i64 y.s.r, .int .i64 y.p, .int .i64 y.q] 34))
    replace B := thenB B (belowA (w.alloc (.cells #[.int .i64 x.s.a, .int .i64 x.s.b, .int .i64 x.s.c, .int .i64 x.s.d, .int .i64 x.s.e, .int .i64 x.s.f, .int .i64 x.s.g, .int .i64 x.s.h, .int .i64 x.s.r, .int .i64 x.p, .int .i64 x.q] 34)) (.cells #[.int .i64 y.s.a, .int .i64 y.s.b, .int .i64 y.s.c, .int .i64 y.s.d, .int .i64 y.s.e, .int .i64 y.s.f, .int .i64 y.s.g, .int .i64 y.s.h, .int .i64 y.s.r, .int .i64 y.p, .int .i64 y.q] 34))
    have VY : V ((w.alloc (.cells #[.int .i64 x.s.a, .int .i64 x.s.b, .int .i64 x.s.c, .int .i64 x.s.d, .int .i64 x.s.e, .int .i64 x.s.f, .int .i64 x.s.g, .int .i64 x.s.h, .int .i64 x.s.r, .int .i64 x.p, .int .i64 x.q] 34)).alloc (.cells #[.int .i64 y.s.a, .int .i64 y.s.b, .int .i64 y.s.c, .int .i64 y.s.d, .int .i64 y.s.e, .int .i64 y.s.f, .int .i64 y.s.g, .int .i64 y.s.h, .int .i64 y.s.r, .int .i64 y.p, .int .i64 y.q] 34)) (w.heap.size + 1) [.int .i64 y.s.a, .int .i64 y.s.b, .int .i64 y.s.c, .int .i64 y.s.d, .int .i64 y.s.e, .int .i64 y.s.f, .int .i64 y.s.g, .int .i64 y.s.h, .int .i64 y.s.r, .int .i64 y.p, .int .i64 y.q] := V.newAt _ _ _ _ (by simp)
    obtain ⟨s_VX, f_VX, z_VX⟩ := VX.open
    obtain ⟨s_VY, f_VY, z_VY⟩ := VY.open
    have Bo := B
    go_wp2_with fail
    refine (CM.out _).mono ?_
    rintro e w31 ⟨rfl, b31⟩
    clear s_VX f_VX z_VX s_VY f_VY z_VY
    have S31 := b31.size
    simp only [World.size_alloc] at S31
    replace VX := VX.kept b31
    replace VY := VY.kept b31
    replace B := thenB B b31
    clear b31
    obtain ⟨s_VX, f_VX, z_VX⟩ := VX.open
    obtain ⟨s_VY, f_VY, z_VY⟩ := VY.open
    have Bo := B
    go_wp2
    go_ret
    exact ⟨rfl, B⟩

set_option maxRecDepth 20000 in
set_option maxHeartbeats 4000000 in
theorem cloneRules_ok (b off n ca : Nat) (xs : List R11) (w : World) (ha : RdRule w (some ⟨b, off, none⟩) xs) (hn : xs.length = n) (h0 : 0 < n) (hx : n ≤ 20) :
    Calls Tryd.prog 72 #[.slice (some ⟨b, off, none⟩) n ca] w fun e w' => ∃ (c d : Nat), e = .returned (.slice (some ⟨c, 0, none⟩) n d) ∧ OwnRule w' w.heap.size (some ⟨c, 0, none⟩) d xs ∧ Below w.heap.size w w' := by
  have qF : ∀ w : World, (binOp .eql 24 (.slice (some ⟨b, off, none⟩) n ca) (.slice none 0 0)).run Tryd.prog w = .ok (.bool false) w := fun w => Lib.run_eql_slice_nil w _ _ _ _ _ _ _ Tryd.underlying24
  have OL := OwnRule.lit w [] [] rfl (by decide)
  have B := belowA w (.cells #[] 34)
  have hb := ha.kept B
  go_enter Tryd.func72, Tryd.ntmps72
  go_wp2_with (at_builtin; go_loud (refine wpList_putsRule _ rfl _ _ rfl w.heap.size (some ⟨w.heap.size, 0, none⟩) 0 [] 0 rfl rfl OL b off n ca xs rfl hb hn h0 (by omega) (by simp) ?_))
  intro c4 d4 w4 O4 hg4 hx4
  obtain ⟨c5, rfl, hc5, hc6⟩ := hx4.out
  have B4 := Hid.mk (belowG (c := some ⟨w.heap.size, 0, none⟩) B hg4 (by simp) (fun b hb => by simp only [Option.some.injEq] at hb; subst hb; exact Nat.le_refl _))
  replace O4 := Hid.mk O4
  clear hg4 hx4 hc5 hb OL B
  go_wp2
  go_ret
  exact ⟨c5, d4, by simp, O4.out, B4.out⟩

set_option maxRecDepth 20000 in
set_option maxHeartbeats 8000000 in
theorem implSwapRules_ok (a : Option Addr) (n ca : Nat) (xs : List R11) (t : Int) (w : World) (ha : RdRule w a xs) (hn : xs.length = n) (hx : n ≤ maxLen) (ht : -9223372036854775808 ≤ t ∧ t ≤ 9223372036854775807) :
    Calls Tryd.prog 22 #[.slice a n ca, .int .i64 t] w fun e w' => ∃ (c : Option Addr) (d k : Nat), e = .returned (.agg #[.int .i64 (swC xs t), .slice c k d]) ∧ (swL xs t).length = k ∧ OwnRule w' w.heap.size c d (swL xs t) ∧ Below w.heap.size w w' := by
  have CP := Hid.mk (fun w h => implPolicyFault_ok a n ca xs w h hn hx)
  have q0 := build_rs0
  have q1 := build_rs1
  obtain ⟨t1, t2⟩ := ht
  unfold maxLen at hx
  rcases sw_ways2 xs t with ⟨h1, e1, e2⟩ | ⟨h1, h2, e1, e2⟩ | ⟨k, x, y, rfl, hk, h1, h2, hxx, hyy, hw⟩
  · rw [e1, e2]
    clear e1 e2
    generalize pyC xs = kk at *
    go_enter Tryd.func22, Tryd.ntmps22
    have B := Below.refl w.heap.size w
    replace ha := ha.kept (belowA w (.cells #[.int .i64 0, .slice none 0 0] 45))
    replace B := thenB B (belowA w (.cells #[.int .i64 0, .slice none 0 0] 45))
    have VR := V.new w [.int .i64 0, .slice none 0 0] 45
    obtain ⟨s_VR, f_VR, z_VR⟩ := VR.open
    have Bo := B
    go_wp2_with fail
    refine (CP.out _ ha).mono ?_
    rintro e w1 ⟨rfl, b1⟩
    clear s_VR f_VR z_VR
    have S1 := b1.size
    simp only [World.size_alloc] at S1
    replace VR := VR.kept b1
    replace ha := ha.kept b1
    replace B := thenB B b1
    clear b1
    obtain ⟨s_VR, f_VR, z_VR⟩ := VR.open
    have Bo := B
    clear s_VR f_VR z_VR
    have VF := Hid.mk (VR.filled [.int .i64 kk, .slice none 0 0] rfl)
    have BR := belowCells B (show w.heap.size ≤ w.heap.size by (first | omega | (simp; done) | (simp; omega))) 0 [.int .i64 kk, .slice none 0 0]
    have HT := Hid.mk VR.there
    replace BR := Hid.mk BR
    obtain ⟨s_VR, f_VR, z_VR⟩ := VR.open
    go_wp2_with (refine wpList_store_mid rfl 45 _ _ rfl (w.heap.size) 0 #[.int .i64 kk, .slice none 0 0] rfl rfl HT.out (by kernel_rfl) (by kernel_rfl) ?_)
    refine bodyPost_ret (v := .agg #[.int .i64 kk, .slice none 0 0]) (results_row Tryd.results22 _ _ (w.heap.size) [.int .i64 kk, .slice none 0 0] _ rfl VF.out Tryd.underlying45 rfl (by kernel_rfl)) rfl ⟨none, 0, 0, rfl, rfl, OwnRule.none, BR.out⟩
  · rw [e1, e2]
    clear e1 e2
    have hx20 := (pyC_zero h1).1
    rw [h1] at CP
    rw [hn] at h2
    go_enter Tryd.func22, Tryd.ntmps22
    have B := Below.refl w.heap.size w
    replace ha := ha.kept (belowA w (.cells #[.int .i64 0, .slice none 0 0] 45))
    replace B := thenB B (belowA w (.cells #[.int .i64 0, .slice none 0 0] 45))
    have VR := V.new w [.int .i64 0, .slice none 0 0] 45
    obtain ⟨s_VR, f_VR, z_VR⟩ := VR.open
    have Bo := B
    go_wp2_with fail
    refine (CP.out _ ha).mono ?_
    rintro e w6 ⟨rfl, b6⟩
    clear s_VR f_VR z_VR
    have S6 := b6.size
    simp only [World.size_alloc] at S6
    replace VR := VR.kept b6
    replace ha := ha.kept b6
    replace B := thenB B b6
    clear b6
    obtain ⟨s_VR, f_VR, z_VR⟩ := VR.open
    have Bo := B
    go_wp2_with fail
    refine (isBetween_ok _ _ _ _).mono ?_
    rintro e wq ⟨rfl, rfl⟩
    rw [h2]
    clear s_VR f_VR z_VR
    have VF := Hid.mk (VR.filled [.int .i64 3, .slice none 0 0] rfl)
    have BR := belowCells B (show w.heap.size ≤ w.heap.size by (first | omega | (simp; done) | (simp; omega))) 0 [.int .i64 3, .slice none 0 0]
    have HT := Hid.mk VR.there
    replace BR := Hid.mk BR
    obtain ⟨s_VR, f_VR, z_VR⟩ := VR.open
    go_wp2_with (refine wpList_store_mid rfl 45 _ _ rfl (w.heap.size) 0 #[.int .i64 3, .slice none 0 0] rfl rfl HT.out (by kernel_rfl) (by kernel_rfl) ?_)
    refine bodyPost_ret (v := .agg #[.int .i64 3, .slice none 0 0]) (results_row Tryd.results22 _ _ (w.heap.size) [.int .i64 3, .slice none 0 0] _ rfl VF.out Tryd.underlying45 rfl (by kernel_rfl)) rfl ⟨none, 0, 0, rfl, rfl, OwnRule.none, BR.out⟩
  · have hx20 := (pyC_zero h1).1
    rw [h1] at CP
    rw [hn] at h2
    obtain ⟨C, hC⟩ : ∃ C, swC xs (k : Int) = C := ⟨_, rfl⟩
    obtain ⟨Lz, hL⟩ : ∃ Lz, swL xs (k : Int) = Lz := ⟨_, rfl⟩
    rw [hC, hL] at hw ⊢
    clear hC hL
    have CM := Hid.mk (fun w => mayChange_ok x y w)
    generalize mcB x y = r at *
    have hk1 : (k : Int) < (n : Int) := by omega
    have hk2 : (k : Int) + 1 < (n : Int) := by omega
    have hk3 : (k : Int) + 1 ≤ 30 := by omega
    have hn0 : 0 < n := by omega
    have hk0 : (0 : Int) ≤ (k : Int) + 1 := by omega
    have hwr : IntKind.i64.wrap ((k : Int) + 1) = (k : Int) + 1 := by rw [IntKind.wrap_i64]; omega
    go_enter Tryd.func22, Tryd.ntmps22
    have B := Below.refl w.heap.size w
    replace ha := ha.kept (belowA w (.cells #[.int .i64 0, .slice none 0 0] 45))
    replace B := thenB B (belowA w (.cells #[.int .i64 0, .slice none 0 0] 45))
    have VR := V.new w [.int .i64 0, .slice none 0 0] 45
    obtain ⟨s_VR, f_VR, z_VR⟩ := VR.open
    have Bo := B
    go_wp2_with fail
    refine (CP.out _ ha).mono ?_
    rintro e w11 ⟨rfl, b11⟩
    clear s_VR f_VR z_VR
    have S11 := b11.size
    simp only [World.size_alloc] at S11
    replace VR := VR.kept b11
    replace ha := ha.kept b11
    replace B := thenB B b11
    clear b11
    obtain ⟨s_VR, f_VR, z_VR⟩ := VR.open
    have Bo := B
    go_wp2_with fail
    refine (isBetween_ok _ _ _ _).mono ?_
    rintro e wq ⟨rfl, rfl⟩
    rw [h2]
    clear s_VR f_VR z_VR
    rcases ha with h0 | ⟨b1, o1, rfl, hca⟩
    · rw [h0] at hn; simp at hn; omega
    obtain ⟨p0, p1, p2, p3, p4, p5, p6, p7, p8, p9, p10⟩ := RdRule.cells hca k (by omega) x hxx
    obtain ⟨r0, r1, r2, r3, r4, r5, r6, r7, r8, r9, r10⟩ := RdRule.cells hca (k + 1) (by omega) y hyy
    have hb1 := World.block_lt_of_cell? (a := ⟨b1, o1 + k * 11, none⟩) _ p0
    simp only at hb1
    have ha : RdRule wq (some ⟨b1, o1, none⟩) xs := .inr ⟨b1, o1, rfl, hca⟩
    clear hca
    generalize hK1 : o1 + k * 11 = K1 at *
    generalize hK2 : o1 + (k + 1) * 11 = K2 at *
    have HA := Hid.mk ha
    have K : ∀ w' : World, Below wq.heap.size wq w' → (w'.cell? ⟨b1, K1, none⟩ = some (.int .i64 x.s.a) ∧ w'.cell? ⟨b1, K1 + 1, none⟩ = some (.int .i64 x.s.b) ∧ w'.cell? ⟨b1, K1 + 2, none⟩ = some (.int .i64 x.s.c) ∧ w'.cell? ⟨b1, K1 + 3, none⟩ = some (.int .i64 x.s.d) ∧ w'.cell? ⟨b1, K1 + 4, none⟩ = some (.int .i64 x.s.e) ∧ w'.cell? ⟨b1, K1 + 5, none⟩ = some (.int .i64 x.s.f) ∧ w'.cell? ⟨b1, K1 + 6, none⟩ = some (.int .i64 x.s.g) ∧ w'.cell? ⟨b1, K1 + 7, none⟩ = some (.int .i64 x.s.h) ∧ w'.cell? ⟨b1, K1 + 8, none⟩ = some (.int .i64 x.s.r) ∧ w'.cell? ⟨b1, K1 + 9, none⟩ = some (.int .i64 x.p) ∧ w'.cell? ⟨b1, K1 + 10, none⟩ = some (.int .i64 x.q) ∧ w'.cell? ⟨b1, K2, none⟩ = some (.int .i64 y.s.a) ∧ w'.cell? ⟨b1, K2 + 1, none⟩ = some (.int .i64 y.s.b) ∧ w'.cell? ⟨b1, K2 + 2, none⟩ = some (.int .i64 y.s.c) ∧ w'.cell? ⟨b1, K2 + 3, none⟩ = some (.int .i64 y.s.d) ∧ w'.cell? ⟨b1, K2 + 4, none⟩ = some (.int .i64 y.s.e) ∧ w'.cell? ⟨b1, K2 + 5, none⟩ = some (.int .i64 y.s.f) ∧ w'.cell? ⟨b1, K2 + 6, none⟩ = some (.int .i64 y.s.g) ∧ w'.cell? ⟨b1, K2 + 7, none⟩ = some (.int .i64 y.s.h) ∧ w'.cell? ⟨b1, K2 + 8, none⟩ = some (.int .i64 y.s.r) ∧ w'.cell? ⟨b1, K2 + 9, none⟩ = some (.int .i64 y.p) ∧ w'.cell? ⟨b1, K2 + 10, none⟩ = some (.int .i64 y.q)) := fun w' h => ⟨((bcell h).1 _ _ hb1).trans p0, ((bcell h).1 _ _ hb1).trans p1, ((bcell h).1 _ _ hb1).trans p2, ((bcell h).1 _ _ hb1).trans p3, ((bcell h).1 _ _ hb1).trans p4, ((bcell h).1 _ _ hb1).trans p5, ((bcell h).1 _ _ hb1).trans p6, ((bcell h).1 _ _ hb1).trans p7, ((bcell h).1 _ _ hb1).trans p8, ((bcell h).1 _ _ hb1).trans p9, ((bcell h).1 _ _ hb1).trans p10, ((bcell h).1 _ _ hb1).trans r0, ((bcell h).1 _ _ hb1).trans r1, ((bcell h).1 _ _ hb1).trans r2, ((bcell h).1 _ _ hb1).trans r3, ((bcell h).1 _ _ hb1).trans r4, ((bcell h).1 _ _ hb1).trans r5, ((bcell h).1 _ _ hb1).trans r6, ((bcell h).1 _ _ hb1).trans r7, ((bcell h).1 _ _ hb1).trans r8, ((bcell h).1 _ _ hb1).trans r9, ((bcell h).1 _ _ hb1).trans r10⟩
    have K := Hid.mk K
    clear p0 p1 p2 p3 p4 p5 p6 p7 p8 p9 p10 r0 r1 r2 r3 r4 r5 r6 r7 r8 r9 r10
    go_wp2_with fail
    refine wp_region_held_drew (S := (fun w' => w'.cell? ⟨b1, K1, none⟩ = some (.int .i64 x.s.a) ∧ w'.cell? ⟨b1, K1 + 1, none⟩ = some (.int .i64 x.s.b) ∧ w'.cell? ⟨b1, K1 + 2, none⟩ = some (.int .i64 x.s.c) ∧ w'.cell? ⟨b1, K1 + 3, none⟩ = some (.int .i64 x.s.d) ∧ w'.cell? ⟨b1, K1 + 4, none⟩ = some (.int .i64 x.s.e) ∧ w'.cell? ⟨b1, K1 + 5, none⟩ = some (.int .i64 x.s.f) ∧ w'.cell? ⟨b1, K1 + 6, none⟩ = some (.int .i64 x.s.g) ∧ w'.cell? ⟨b1, K1 + 7, none⟩ = some (.int .i64 x.s.h) ∧ w'.cell? ⟨b1, K1 + 8, none⟩ = some (.int .i64 x.s.r) ∧ w'.cell? ⟨b1, K1 + 9, none⟩ = some (.int .i64 x.p) ∧ w'.cell? ⟨b1, K1 + 10, none⟩ = some (.int .i64 x.q) ∧ w'.cell? ⟨b1, K2, none⟩ = some (.int .i64 y.s.a) ∧ w'.cell? ⟨b1, K2 + 1, none⟩ = some (.int .i64 y.s.b) ∧ w'.cell? ⟨b1, K2 + 2, none⟩ = some (.int .i64 y.s.c) ∧ w'.cell? ⟨b1, K2 + 3, none⟩ = some (.int .i64 y.s.d) ∧ w'.cell? ⟨b1, K2 + 4, none⟩ = some (.int .i64 y.s.e) ∧ w'.cell? ⟨b1, K2 + 5, none⟩ = some (.int .i64 y.s.f) ∧ w'.cell? ⟨b1, K2 + 6, none⟩ = some (.int .i64 y.s.g) ∧ w'.cell? ⟨b1, K2 + 7, none⟩ = some (.int .i64 y.s.h) ∧ w'.cell? ⟨b1, K2 + 8, none⟩ = some (.int .i64 y.s.r) ∧ w'.cell? ⟨b1, K2 + 9, none⟩ = some (.int .i64 y.p) ∧ w'.cell? ⟨b1, K2 + 10, none⟩ = some (.int .i64 y.q))) (by kernel_rfl) (K.out _ (Below.refl _ _).drew) (fun hHeld => ?_)
    refine wpAnyH_take (i := 0) (oi := _) (v := ?vz1u1) rfl (by kernel_rfl) (by kernel_rfl) (by kernel_rfl) (fun _ _ _ h => h) (Or.inl ⟨by rfl, ?hyz1u1⟩) hHeld ?restz1u1
    case hyz1u1 => (intro w hSw; (try dsimp only at hSw); go_simp; first | done | with_reducible rfl)
    try simp only [Act.put, List.getElem_toArray, List.getElem_cons_zero, List.setIfInBounds_toArray, List.set_cons_zero, List.set_cons_succ]
    refine wpAnyH_take (i := 1) (oi := _) (v := ?vz1u2) rfl (by kernel_rfl) (by kernel_rfl) (by kernel_rfl) (fun _ _ _ h => h) (Or.inl ⟨by rfl, ?hyz1u2⟩) hHeld ?restz1u2
    case hyz1u2 => (intro w hSw; (try dsimp only at hSw); go_simp; first | done | with_reducible rfl)
    try simp only [Act.put, List.getElem_toArray, List.getElem_cons_zero, List.getElem_cons_succ, List.setIfInBounds_toArray, List.set_cons_zero, List.set_cons_succ]
    refine wpAnyH_take (i := 2) (oi := _) (v := ?vz1u3) rfl (by kernel_rfl) (by kernel_rfl) (by kernel_rfl) (fun _ _ _ h => h) (Or.inl ⟨by rfl, ?hyz1u3⟩) hHeld ?restz1u3
    case hyz1u3 => (intro w hSw; (try dsimp only at hSw); go_simp; first | done | with_reducible rfl)
    try simp only [Act.put, List.getElem_toArray, List.getElem_cons_zero, List.getElem_cons_succ, List.setIfInBounds_toArray, List.set_cons_zero, List.set_cons_succ]
    refine wpAnyH_take (i := 3) (oi := _) (v := ?vz1u4) rfl (by kernel_rfl) (by kernel_rfl) (by kernel_rfl) (fun _ _ _ h => h) (Or.inl ⟨by rfl, ?hyz1u4⟩) hHeld ?restz1u4
    case hyz1u4 => (intro w hSw; (try dsimp only at hSw); go_simp; first | done | with_reducible rfl)
    try simp only [Act.put, List.getElem_toArray, List.getElem_cons_zero, List.getElem_cons_succ, List.setIfInBounds_toArray, List.set_cons_zero, List.set_cons_succ]
    refine wpAnyH_take (i := 4) (oi := _) (v := ?vz1u5) rfl (by kernel_rfl) (by kernel_rfl) (by kernel_rfl) (fun _ _ _ h => h) (Or.inl ⟨by rfl, ?hyz1u5⟩) hHeld ?restz1u5
    case hyz1u5 => (intro w hSw; (try dsimp only at hSw); go_simp; first | done | with_reducible rfl)
    try simp only [Act.put, List.getElem_toArray, List.getElem_cons_zero, List.getElem_cons_succ, List.setIfInBounds_toArray, List.set_cons_zero, List.set_cons_succ]
    refine wpAnyH_take (i := 5) (oi := _) (v := ?vz1u6) rfl (by kernel_rfl) (by kernel_rfl) (by kernel_rfl) (fun _ _ _ h => h) (Or.inl ⟨by rfl, ?hyz1u6⟩) hHeld ?restz1u6
    case hyz1u6 => (intro w hSw; (try dsimp only at hSw); go_simp; first | done | with_reducible rfl)
    try simp only [Act.put, List.getElem_toArray, List.getElem_cons_zero, List.getElem_cons_succ, List.setIfInBounds_toArray, List.set_cons_zero, List.set_cons_succ]
    refine wpAnyH_take (i := 6) (oi := _) (v := ?vz1u7) rfl (by kernel_rfl) (by kernel_rfl) (by kernel_rfl) (fun _ _ _ h => h) (Or.inl ⟨by rfl, ?hyz1u7⟩) hHeld ?restz1u7
    case hyz1u7 => (intro w hSw; (try dsimp only at hSw); go_simp; first | done | with_reducible rfl)
    try simp only [Act.put, List.getElem_toArray, List.getElem_cons_zero, List.getElem_cons_succ, List.setIfInBounds_toArray, List.set_cons_zero, List.set_cons_succ]
    refine wpAnyH_take (i := 7) (oi := _) (v := ?vz1u8) rfl (by kernel_rfl) (by kernel_rfl) (by kernel_rfl) (fun _ _ _ h => h) (Or.inl ⟨by rfl, ?hyz1u8⟩) hHeld ?restz1u8
    case hyz1u8 => (intro w hSw; (try dsimp only at hSw); go_simp; first | done | with_reducible rfl)
    try simp only [Act.put, List.getElem_toArray, List.getElem_cons_zero, List.getElem_cons_succ, List.setIfInBounds_toArray, List.set_cons_zero, List.set_cons_succ]
    refine wpAnyH_take (i := 8) (oi := _) (v := ?vz1u9) rfl (by kernel_rfl) (by kernel_rfl) (by kernel_rfl) (fun _ _ _ h => h) (Or.inl ⟨by rfl, ?hyz1u9⟩) hHeld ?restz1u9
    case hyz1u9 => (intro w hSw; (try dsimp only at hSw); go_simp; first | done | with_reducible rfl)
    try simp only [Act.put, List.getElem_toArray, List.getElem_cons_zero, List.getElem_cons_succ, List.setIfInBounds_toArray, List.set_cons_zero, List.set_cons_succ]
    refine wpAnyH_ready (rs := [9]) (by kernel_rfl) (by simp) ?_
    refine AllReadyH.cons (o := _) rfl (fun K0 hK0 => ?_) AllReadyH.nil
    go_simp
    go_at_call 71
    refine (CM.out _).mono ?_
    rintro e wz1v10 ⟨rfl, bz1v10⟩
    refine hK0.out _ _ (K.out _ (thenB (Below.refl _ _).drew bz1v10)) (fun hHeld => ?_)
    clear hK0 K0
    try simp only [Act.put, List.getElem_toArray, List.getElem_cons_zero, List.getElem_cons_succ, List.setIfInBounds_toArray, List.set_cons_zero, List.set_cons_succ]
    refine wpAnyH_take (i := 10) (oi := _) (v := ?vz1u11) rfl (by kernel_rfl) (by kernel_rfl) (by kernel_rfl) (fun _ _ _ h => h) (Or.inl ⟨by rfl, ?hyz1u11⟩) hHeld ?restz1u11
    case hyz1u11 => (intro w hSw; (try dsimp only at hSw); go_simp; first | done | with_reducible rfl)
    try simp only [Act.put, List.getElem_toArray, List.getElem_cons_zero, List.getElem_cons_succ, List.setIfInBounds_toArray, List.set_cons_zero, List.set_cons_succ]
    refine wpAnyH_done (by kernel_rfl) ?_ _
    clear K hHeld
    replace VR := VR.kept (thenB (Below.refl _ _).drew bz1v10)
    have ha := HA.out.kept (thenB (Below.refl _ _).drew bz1v10)
    replace B := thenB B (thenB (Below.refl _ _).drew bz1v10)
    have Sz1 := ((thenB (Below.refl _ _).drew bz1v10)).size
    clear bz1v10
    obtain ⟨s_VR, f_VR, z_VR⟩ := VR.open
    have Bo := B
    rcases hw with ⟨rfl, e1, e2⟩ | ⟨rfl, e1, e2⟩
    · skip
      replace e1 := Hid.mk e1
      replace e2 := Hid.mk e2
      clear s_VR f_VR z_VR
      have VF := Hid.mk (VR.filled [.int .i64 1, .slice none 0 0] rfl)
      have BR := belowCells B (show w.heap.size ≤ w.heap.size by (first | omega | (simp; done) | (simp; omega))) 0 [.int .i64 1, .slice none 0 0]
      have HT := Hid.mk VR.there
      replace BR := Hid.mk BR
      obtain ⟨s_VR, f_VR, z_VR⟩ := VR.open
      go_wp2_with (refine wpList_store_mid rfl 45 _ _ rfl (w.heap.size) 0 #[.int .i64 1, .slice none 0 0] rfl rfl HT.out (by kernel_rfl) (by kernel_rfl) ?_)
      refine bodyPost_ret (v := .agg #[.int .i64 1, .slice none 0 0]) (results_row Tryd.results22 _ _ (w.heap.size) [.int .i64 1, .slice none 0 0] _ rfl VF.out Tryd.underlying45 rfl (by kernel_rfl)) rfl ⟨none, 0, 0, by rw [e1.out], by rw [e2.out]; rfl, by rw [e2.out]; exact OwnRule.none, BR.out⟩
    · skip
      replace e1 := Hid.mk e1
      replace e2 := Hid.mk e2
      clear hK1 hK2 HA
      go_wp2_with fail
      refine (cloneRules_ok b1 o1 n ca xs _ ha hn hn0 (by omega)).mono ?_
      rintro e w12 ⟨c5, d5, rfl, O4, b12⟩
      clear s_VR f_VR z_VR
      have S12 := b12.size
      replace VR := VR.kept b12
      replace ha := ha.kept b12
      replace B := thenB B b12
      clear b12
      obtain ⟨s_VR, f_VR, z_VR⟩ := VR.open
      have Bo := B
      have HT1 := Hid.mk (O4.there k (by omega))
      have hc7 := (O4.lt _ rfl).1
      simp only at hc7
      have hc8 := (O4.lt _ rfl).2
      simp only at hc8
      have RO := O4.rd
      rcases RO with h0 | ⟨b9, o9, hb9, hcb⟩
      · rw [h0] at hn; simp at hn; omega
      simp only [Option.some.injEq, Addr.mk.injEq, and_true] at hb9
      obtain ⟨rfl, rfl⟩ := hb9
      obtain ⟨p0, p1, p2, p3, p4, p5, p6, p7, p8, p9, p10⟩ := RdRule.cells hcb k (by omega) x hxx
      obtain ⟨r0, r1, r2, r3, r4, r5, r6, r7, r8, r9, r10⟩ := RdRule.cells hcb (k + 1) (by omega) y hyy
      clear hcb
      simp only [Nat.zero_add] at p0 p1 p2 p3 p4 p5 p6 p7 p8 p9 p10 r0 r1 r2 r3 r4 r5 r6 r7 r8 r9 r10
      clear s_VR f_VR z_VR
      have bd : Below w12.heap.size w12 w12.drew := (Below.refl _ _).drew
      have O5a := O4.kept bd
      have VR5a := VR.kept bd
      have B5a := thenB B bd
      replace p0 := ((bcell bd).1 _ _ hc8).trans p0
      replace p1 := ((bcell bd).1 _ _ hc8).trans p1
      replace p2 := ((bcell bd).1 _ _ hc8).trans p2
      replace p3 := ((bcell bd).1 _ _ hc8).trans p3
      replace p4 := ((bcell bd).1 _ _ hc8).trans p4
      replace p5 := ((bcell bd).1 _ _ hc8).trans p5
      replace p6 := ((bcell bd).1 _ _ hc8).trans p6
      replace p7 := ((bcell bd).1 _ _ hc8).trans p7
      replace p8 := ((bcell bd).1 _ _ hc8).trans p8
      replace p9 := ((bcell bd).1 _ _ hc8).trans p9
      replace p10 := ((bcell bd).1 _ _ hc8).trans p10
      replace r0 := ((bcell bd).1 _ _ hc8).trans r0
      replace r1 := ((bcell bd).1 _ _ hc8).trans r1
      replace r2 := ((bcell bd).1 _ _ hc8).trans r2
      replace r3 := ((bcell bd).1 _ _ hc8).trans r3
      replace r4 := ((bcell bd).1 _ _ hc8).trans r4
      replace r5 := ((bcell bd).1 _ _ hc8).trans r5
      replace r6 := ((bcell bd).1 _ _ hc8).trans r6
      replace r7 := ((bcell bd).1 _ _ hc8).trans r7
      replace r8 := ((bcell bd).1 _ _ hc8).trans r8
      replace r9 := ((bcell bd).1 _ _ hc8).trans r9
      replace r10 := ((bcell bd).1 _ _ hc8).trans r10
      replace HT1 := Hid.mk (O5a.there k (by omega))
      go_upto_region 9 with fail
      refine wp_region_any (by kernel_rfl) ?_
      change wpAny _ _ _ _ _ _ _ w12.drew
      clear O4 VR B Bo ha bd
      generalize w12.drew = wd at *
      have hwc : w.heap.size ≤ c5 := by have := hc7; omega
      have hR : w.heap.size ≠ c5 := by omega
      have hsd : c5 < wd.heap.size := (O5a.lt _ rfl).2
      generalize hK1 : k * 11 = K1 at *
      generalize hK2 : (k + 1) * 11 = K2 at *
      have O5 := O5a.stroke k (by omega) y
      dsimp only [rowRule] at O5
      rw [hK1] at O5
      have VR6 := VR5a.apart hR K1 [.int .i64 y.s.a, .int .i64 y.s.b, .int .i64 y.s.c, .int .i64 y.s.d, .int .i64 y.s.e, .int .i64 y.s.f, .int .i64 y.s.g, .int .i64 y.s.h, .int .i64 y.s.r, .int .i64 y.p, .int .i64 y.q]
      have B6 := belowCells B5a hwc K1 [.int .i64 y.s.a, .int .i64 y.s.b, .int .i64 y.s.c, .int .i64 y.s.d, .int .i64 y.s.e, .int .i64 y.s.f, .int .i64 y.s.g, .int .i64 y.s.h, .int .i64 y.s.r, .int .i64 y.p, .int .i64 y.q]
      obtain ⟨w6, hw6⟩ : ∃ w6, wd.setCells c5 K1 [.int .i64 y.s.a, .int .i64 y.s.b, .int .i64 y.s.c, .int .i64 y.s.d, .int .i64 y.s.e, .int .i64 y.s.f, .int .i64 y.s.g, .int .i64 y.s.h, .int .i64 y.s.r, .int .i64 y.p, .int .i64 y.q] = w6 := ⟨_, rfl⟩
      rw [hw6] at O5 VR6 B6
      replace hw6 := Hid.mk hw6
      have HT2 := O5.there (k + 1) (by rw [List.length_set]; omega)
      rw [hK2] at HT2
      replace HT2 := Hid.mk HT2
      have O6 := O5.stroke (k + 1) (by rw [List.length_set]; omega) x
      dsimp only [rowRule] at O6
      rw [hK2] at O6
      have VR7 := VR6.apart hR K2 [.int .i64 x.s.a, .int .i64 x.s.b, .int .i64 x.s.c, .int .i64 x.s.d, .int .i64 x.s.e, .int .i64 x.s.f, .int .i64 x.s.g, .int .i64 x.s.h, .int .i64 x.s.r, .int .i64 x.p, .int .i64 x.q]
      have B7 := belowCells B6 hwc K2 [.int .i64 x.s.a, .int .i64 x.s.b, .int .i64 x.s.c, .int .i64 x.s.d, .int .i64 x.s.e, .int .i64 x.s.f, .int .i64 x.s.g, .int .i64 x.s.h, .int .i64 x.s.r, .int .i64 x.p, .int .i64 x.q]
      obtain ⟨w7, hw7⟩ : ∃ w7, w6.setCells c5 K2 [.int .i64 x.s.a, .int .i64 x.s.b, .int .i64 x.s.c, .int .i64 x.s.d, .int .i64 x.s.e, .int .i64 x.s.f, .int .i64 x.s.g, .int .i64 x.s.h, .int .i64 x.s.r, .int .i64 x.p, .int .i64 x.q] = w7 := ⟨_, rfl⟩
      rw [hw7] at O6 VR7 B7
      replace hw7 := Hid.mk hw7
      have HT3 := Hid.mk VR7.there
      have VF := VR7.filled [.int .i64 0, .slice (some ⟨c5, 0, none⟩) n d5] rfl
      have BR := belowCells B7 (show w.heap.size ≤ w.heap.size by omega) 0 [.int .i64 0, .slice (some ⟨c5, 0, none⟩) n d5]
      have O7 := OwnRule.mono (O6.apart (B := w.heap.size) (by intro b hb; simp at hb; subst hb; simp; omega) 0 [.int .i64 0, .slice (some ⟨c5, 0, none⟩) n d5]) (show w.heap.size ≤ _ by omega)
      obtain ⟨w8, hw8⟩ : ∃ w8, w7.setCells (w.heap.size) 0 [.int .i64 0, .slice (some ⟨c5, 0, none⟩) n d5] = w8 := ⟨_, rfl⟩
      rw [hw8] at VF BR O7
      replace hw8 := Hid.mk hw8
      replace VF := Hid.mk VF
      replace BR := Hid.mk BR
      replace O7 := Hid.mk O7
      clear O5a O5 O6 VR5a VR6 VR7 B5a B6 B7
      refine wpAny_take (i := 0) (oi := _) (v := ?vsw1) rfl (by kernel_rfl) (by kernel_rfl) (by kernel_rfl) (fun _ _ _ h => h) (Or.inl ⟨by rfl, ?hysw1⟩) ?restsw1
      case hysw1 => (intro w; go_simp; first | done | with_reducible rfl)
      try simp only [Act.put, List.getElem_toArray, List.getElem_cons_zero, List.setIfInBounds_toArray, List.set_cons_zero, List.set_cons_succ]
      refine wpAny_take (i := 1) (oi := _) (v := ?vsw2) rfl (by kernel_rfl) (by kernel_rfl) (by kernel_rfl) (fun _ _ _ h => h) (Or.inl ⟨by rfl, ?hysw2⟩) ?restsw2
      case hysw2 => (intro w; go_simp; first | done | with_reducible rfl)
      try simp only [Act.put, List.getElem_toArray, List.getElem_cons_zero, List.getElem_cons_succ, List.setIfInBounds_toArray, List.set_cons_zero, List.set_cons_succ]
      refine wpAny_take (i := 2) (oi := _) (v := ?vsw3) rfl (by kernel_rfl) (by kernel_rfl) (by kernel_rfl) (fun _ _ _ h => h) (Or.inl ⟨by rfl, ?hysw3⟩) ?restsw3
      case hysw3 => (intro w; go_simp; first | done | with_reducible rfl)
      try simp only [Act.put, List.getElem_toArray, List.getElem_cons_zero, List.getElem_cons_succ, List.setIfInBounds_toArray, List.set_cons_zero, List.set_cons_succ]
      refine wpAny_take (i := 3) (oi := _) (v := ?vsw4) rfl (by kernel_rfl) (by kernel_rfl) (by kernel_rfl) (fun _ _ _ h => h) (Or.inl ⟨by rfl, ?hysw4⟩) ?restsw4
      case hysw4 => (intro w; go_simp; first | done | with_reducible rfl)
      try simp only [Act.put, List.getElem_toArray, List.getElem_cons_zero, List.getElem_cons_succ, List.setIfInBounds_toArray, List.set_cons_zero, List.set_cons_succ]
      refine wpAny_take (i := 4) (oi := _) (v := ?vsw5) rfl (by kernel_rfl) (by kernel_rfl) (by kernel_rfl) (fun _ _ _ h => h) (Or.inl ⟨by rfl, ?hysw5⟩) ?restsw5
      case hysw5 => (intro w; go_simp; first | done | with_reducible rfl)
      try simp only [Act.put, List.getElem_toArray, List.getElem_cons_zero, List.getElem_cons_succ, List.setIfInBounds_toArray, List.set_cons_zero, List.set_cons_succ]
      refine wpAny_take (i := 5) (oi := _) (v := ?vsw6) rfl (by kernel_rfl) (by kernel_rfl) (by kernel_rfl) (fun _ _ _ h => h) (Or.inl ⟨by rfl, ?hysw6⟩) ?restsw6
      case hysw6 => (intro w; go_simp; first | done | with_reducible rfl)
      try simp only [Act.put, List.getElem_toArray, List.getElem_cons_zero, List.getElem_cons_succ, List.setIfInBounds_toArray, List.set_cons_zero, List.set_cons_succ]
      refine wpAny_take (i := 6) (oi := _) (v := ?vsw7) rfl (by kernel_rfl) (by kernel_rfl) (by kernel_rfl) (fun _ _ _ h => h) (Or.inl ⟨by rfl, ?hysw7⟩) ?restsw7
      case hysw7 => (intro w; go_simp; first | done | with_reducible rfl)
      try simp only [Act.put, List.getElem_toArray, List.getElem_cons_zero, List.getElem_cons_succ, List.setIfInBounds_toArray, List.set_cons_zero, List.set_cons_succ]
      refine wpAny_take (i := 7) (oi := _) (v := ?vsw8) rfl (by kernel_rfl) (by kernel_rfl) (by kernel_rfl) (fun _ _ _ h => h) (Or.inl ⟨by rfl, ?hysw8⟩) ?restsw8
      case hysw8 => (intro w; go_simp; first | done | with_reducible rfl)
      try simp only [Act.put, List.getElem_toArray, List.getElem_cons_zero, List.getElem_cons_succ, List.setIfInBounds_toArray, List.set_cons_zero, List.set_cons_succ]
      refine wpAny_take (i := 8) (oi := _) (v := ?vsw9) rfl (by kernel_rfl) (by kernel_rfl) (by kernel_rfl) (fun _ _ _ h => h) (Or.inl ⟨by rfl, ?hysw9⟩) ?restsw9
      case hysw9 => (intro w; go_simp; first | done | with_reducible rfl)
      try simp only [Act.put, List.getElem_toArray, List.getElem_cons_zero, List.getElem_cons_succ, List.setIfInBounds_toArray, List.set_cons_zero, List.set_cons_succ]
      refine wpAny_take (i := 10) (oi := _) (v := ?vsw10) rfl (by kernel_rfl) (by kernel_rfl) (by kernel_rfl) (fun _ _ _ h => h) (Or.inl ⟨by rfl, ?hysw10⟩) ?restsw10
      case hysw10 => (intro w; go_simp; first | done | with_reducible rfl)
      try simp only [Act.put, List.getElem_toArray, List.getElem_cons_zero, List.getElem_cons_succ, List.setIfInBounds_toArray, List.set_cons_zero, List.set_cons_succ]
      refine wpAny_take (i := 11) (oi := _) (v := ?vsw11) rfl (by kernel_rfl) (by kernel_rfl) (by kernel_rfl) (fun _ _ _ h => h) (Or.inl ⟨by rfl, ?hysw11⟩) ?restsw11
      case hysw11 => (intro w; go_simp; first | done | with_reducible rfl)
      try simp only [Act.put, List.getElem_toArray, List.getElem_cons_zero, List.getElem_cons_succ, List.setIfInBounds_toArray, List.set_cons_zero, List.set_cons_succ]
      refine wpAny_take (i := 12) (oi := _) (v := ?vsw12) rfl (by kernel_rfl) (by kernel_rfl) (by kernel_rfl) (fun _ _ _ h => h) (Or.inl ⟨by rfl, ?hysw12⟩) ?restsw12
      case hysw12 => (intro w; go_simp; first | done | with_reducible rfl)
      try simp only [Act.put, List.getElem_toArray, List.getElem_cons_zero, List.getElem_cons_succ, List.setIfInBounds_toArray, List.set_cons_zero, List.set_cons_succ]
      refine wpAny_ready (rs := [9, 13]) (by kernel_rfl) (by simp) ?_
      refine AllReady.cons (o := _) rfl (fun K0 hK0 => ?_) (AllReady.cons (o := _) rfl (fun K0 hK0 => ?_) AllReady.nil)
      · skip
        go_simp
        refine hK0 _ _ ?_
        clear hK0 K0
        try simp only [Act.put, List.getElem_toArray, List.getElem_cons_zero, List.getElem_cons_succ, List.setIfInBounds_toArray, List.set_cons_zero, List.set_cons_succ]
        refine wpAny_ready (rs := [13]) (by kernel_rfl) (by simp) ?_
        refine AllReady.cons (o := _) rfl (fun K0 hK0 => ?_) AllReady.nil
        go_simp
        refine hK0 _ _ ?_
        clear hK0 K0
        try simp only [Act.put, List.getElem_toArray, List.getElem_cons_zero, List.getElem_cons_succ, List.setIfInBounds_toArray, List.set_cons_zero, List.set_cons_succ]
        refine wpAny_take (i := 14) (oi := _) (v := ?vsw13) rfl (by kernel_rfl) (by kernel_rfl) (by kernel_rfl) (fun _ _ _ h => h) (Or.inl ⟨by rfl, ?hysw13⟩) ?restsw13
        case hysw13 => (intro w; go_simp; first | done | with_reducible rfl)
        try simp only [Act.put, List.getElem_toArray, List.getElem_cons_zero, List.getElem_cons_succ, List.setIfInBounds_toArray, List.set_cons_zero, List.set_cons_succ]
        refine wpAny_ready (rs := [15]) (by kernel_rfl) (by simp) ?_
        refine AllReady.cons (o := _) rfl (fun K0 hK0 => ?_) AllReady.nil
        rw [if_pos (by rfl)]
        refine wp_store_mid _ _ _ rfl c5 K1 #[.int .i64 y.s.a, .int .i64 y.s.b, .int .i64 y.s.c, .int .i64 y.s.d, .int .i64 y.s.e, .int .i64 y.s.f, .int .i64 y.s.g, .int .i64 y.s.h, .int .i64 y.s.r, .int .i64 y.p, .int .i64 y.q] rfl rfl HT1.out (by kernel_rfl) (by kernel_rfl) ?_
        rw [hw6.out]
        refine hK0 _ _ ?_
        clear hK0 K0
        refine wpAny_take (i := 16) (oi := _) (v := ?vsw14) rfl (by kernel_rfl) (by kernel_rfl) (by kernel_rfl) (fun _ _ _ h => h) (Or.inl ⟨by rfl, ?hysw14⟩) ?restsw14
        case hysw14 => (intro w; go_simp; first | done | with_reducible rfl)
        try simp only [Act.put, List.getElem_toArray, List.getElem_cons_zero, List.getElem_cons_succ, List.setIfInBounds_toArray, List.set_cons_zero, List.set_cons_succ]
        refine wpAny_ready (rs := [17]) (by kernel_rfl) (by simp) ?_
        refine AllReady.cons (o := _) rfl (fun K0 hK0 => ?_) AllReady.nil
        rw [if_pos (by rfl)]
        refine wp_store_mid _ _ _ rfl c5 K2 #[.int .i64 x.s.a, .int .i64 x.s.b, .int .i64 x.s.c, .int .i64 x.s.d, .int .i64 x.s.e, .int .i64 x.s.f, .int .i64 x.s.g, .int .i64 x.s.h, .int .i64 x.s.r, .int .i64 x.p, .int .i64 x.q] rfl rfl HT2.out (by kernel_rfl) (by kernel_rfl) ?_
        rw [hw7.out]
        refine hK0 _ _ ?_
        clear hK0 K0
        refine wpAny_done (by kernel_rfl) ?_ _
        clear p0 p1 p2 p3 p4 p5 p6 p7 p8 p9 p10 r0 r1 r2 r3 r4 r5 r6 r7 r8 r9 r10
        go_wp2_with (refine wpList_stroke w8 rfl 45 _ _ rfl (w.heap.size) 0 #[.int .i64 0, .slice (some ⟨c5, 0, none⟩) n d5] rfl rfl HT3.out (by kernel_rfl) (by kernel_rfl) hw8.out ?_)
        refine bodyPost_ret (v := .agg #[.int .i64 0, .slice (some ⟨c5, 0, none⟩) n d5]) (results_row Tryd.results22 _ _ (w.heap.size) [.int .i64 0, .slice (some ⟨c5, 0, none⟩) n d5] _ rfl VF.out Tryd.underlying45 rfl (by kernel_rfl)) rfl ⟨some ⟨c5, 0, none⟩, d5, n, by rw [e1.out], by rw [e2.out]; simp [hn], by rw [e2.out]; exact O7.out, BR.out⟩
      · skip
        go_simp
        refine hK0 _ _ ?_
        clear hK0 K0
        try simp only [Act.put, List.getElem_toArray, List.getElem_cons_zero, List.getElem_cons_succ, List.setIfInBounds_toArray, List.set_cons_zero, List.set_cons_succ]
        refine wpAny_ready (rs := [9]) (by kernel_rfl) (by simp) ?_
        refine AllReady.cons (o := _) rfl (fun K0 hK0 => ?_) AllReady.nil
        go_simp
        refine hK0 _ _ ?_
        clear hK0 K0
        try simp only [Act.put, List.getElem_toArray, List.getElem_cons_zero, List.getElem_cons_succ, List.setIfInBounds_toArray, List.set_cons_zero, List.set_cons_succ]
        refine wpAny_take (i := 14) (oi := _) (v := ?vsw15) rfl (by kernel_rfl) (by kernel_rfl) (by kernel_rfl) (fun _ _ _ h => h) (Or.inl ⟨by rfl, ?hysw15⟩) ?restsw15
        case hysw15 => (intro w; go_simp; first | done | with_reducible rfl)
        try simp only [Act.put, List.getElem_toArray, List.getElem_cons_zero, List.getElem_cons_succ, List.setIfInBounds_toArray, List.set_cons_zero, List.set_cons_succ]
        refine wpAny_ready (rs := [15]) (by kernel_rfl) (by simp) ?_
        refine AllReady.cons (o := _) rfl (fun K0 hK0 => ?_) AllReady.nil
        rw [if_pos (by rfl)]
        refine wp_store_mid _ _ _ rfl c5 K1 #[.int .i64 y.s.a, .int .i64 y.s.b, .int .i64 y.s.c, .int .i64 y.s.d, .int .i64 y.s.e, .int .i64 y.s.f, .int .i64 y.s.g, .int .i64 y.s.h, .int .i64 y.s.r, .int .i64 y.p, .int .i64 y.q] rfl rfl HT1.out (by kernel_rfl) (by kernel_rfl) ?_
        rw [hw6.out]
        refine hK0 _ _ ?_
        clear hK0 K0
        refine wpAny_take (i := 16) (oi := _) (v := ?vsw16) rfl (by kernel_rfl) (by kernel_rfl) (by kernel_rfl) (fun _ _ _ h => h) (Or.inl ⟨by rfl, ?hysw16⟩) ?restsw16
        case hysw16 => (intro w; go_simp; first | done | with_reducible rfl)
        try simp only [Act.put, List.getElem_toArray, List.getElem_cons_zero, List.getElem_cons_succ, List.setIfInBounds_toArray, List.set_cons_zero, List.set_cons_succ]
        refine wpAny_ready (rs := [17]) (by kernel_rfl) (by simp) ?_
        refine AllReady.cons (o := _) rfl (fun K0 hK0 => ?_) AllReady.nil
        rw [if_pos (by rfl)]
        refine wp_store_mid _ _ _ rfl c5 K2 #[.int .i64 x.s.a, .int .i64 x.s.b, .int .i64 x.s.c, .int .i64 x.s.d, .int .i64 x.s.e, .int .i64 x.s.f, .int .i64 x.s.g, .int .i64 x.s.h, .int .i64 x.s.r, .int .i64 x.p, .int .i64 x.q] rfl rfl HT2.out (by kernel_rfl) (by kernel_rfl) ?_
        rw [hw7.out]
        refine hK0 _ _ ?_
        clear hK0 K0
        refine wpAny_done (by kernel_rfl) ?_ _
        clear p0 p1 p2 p3 p4 p5 p6 p7 p8 p9 p10 r0 r1 r2 r3 r4 r5 r6 r7 r8 r9 r10
        go_wp2_with (refine wpList_stroke w8 rfl 45 _ _ rfl (w.heap.size) 0 #[.int .i64 0, .slice (some ⟨c5, 0, none⟩) n d5] rfl rfl HT3.out (by kernel_rfl) (by kernel_rfl) hw8.out ?_)
        refine bodyPost_ret (v := .agg #[.int .i64 0, .slice (some ⟨c5, 0, none⟩) n d5]) (results_row Tryd.results22 _ _ (w.heap.size) [.int .i64 0, .slice (some ⟨c5, 0, none⟩) n d5] _ rfl VF.out Tryd.underlying45 rfl (by kernel_rfl)) rfl ⟨some ⟨c5, 0, none⟩, d5, n, by rw [e1.out], by rw [e2.out]; simp [hn], by rw [e2.out]; exact O7.out, BR.out⟩

end Go.Proofs.YtngkahchhioncaaDoor

/- What a policy decides when it is trimmed, and when rules change places. No program stands here. -/
namespace Go.Proofs.YtngkahchhioncaaDoor
open Go.RowKit

theorem find_idx {α : Type} (l : List α) (P : α → Bool) : l.find? P = l[l.findIdx P]? := by
  induction l with
  | nil => rfl
  | cons x l ih =>
    rw [List.find?_cons, List.findIdx_cons]
    cases h : P x
    · simp [ih]
    · simp

theorem inW_in {x y : S9} {f t r u v : Int} (h : inW x y = true) (h2 : inP x f t r u v = true) : inP y f t r u v = true := by
  rw [inW_iff] at h
  rw [inP_iff] at h2 ⊢
  omega

/-- The first rule that holds a packet, as a rule. -/
def fiR (xs : List R11) (f t r u v : Int) : Option R11 := xs.find? fun x => inP x.s f t r u v

theorem fi_none {xs : List R11} {f t r u v : Int} (h : ¬ fstK xs f t r u v < xs.length) : fiR xs f t r u v = none := by
  unfold fiR
  rw [find_idx]
  unfold fstK at h
  exact List.getElem?_eq_none (by omega)

theorem fi_some {xs : List R11} {f t r u v : Int} (h : fstK xs f t r u v < xs.length) : fiR xs f t r u v = some (xs.getD (fstK xs f t r u v) zRule) := by
  unfold fiR
  rw [find_idx]
  unfold fstK at *
  rw [List.getElem?_eq_getElem h]
  simp [List.getD, h]

/-- What 'FirstRule' and 'ActionFor' answer hangs on it alone. -/
theorem fr_of {xs ys : List R11} {f t r l u v : Int} {m : Nat} (ha : asC xs f t r l u v m = asC ys f t r l u v m) (h : fiR xs f t r u v = fiR ys f t r u v) :
    frC xs f t r l u v m = frC ys f t r l u v m ∧ frR xs f t r l u v m = frR ys f t r l u v m := by
  rcases fr_ways xs f t r l u v m with ⟨_, h1, e1, _, e3, _⟩ | ⟨h1, h2, e1, _, e3, _⟩ | ⟨h1, h2, e1, _, e3, _⟩ <;>
  rcases fr_ways ys f t r l u v m with ⟨_, h1', e1', _, e3', _⟩ | ⟨h1', h2', e1', _, e3', _⟩ | ⟨h1', h2', e1', _, e3', _⟩
  · rw [e1, e3, e1', e3', ha]; exact ⟨rfl, rfl⟩
  · exact absurd (ha.trans h1') h1
  · exact absurd (ha.trans h1') h1
  · exact absurd (ha.symm.trans h1) h1'
  · rw [e1, e3, e1', e3']; exact ⟨rfl, rfl⟩
  · rw [fi_none h2, fi_some h2'] at h; cases h
  · exact absurd (ha.symm.trans h1) h1'
  · rw [fi_some h2, fi_none h2'] at h; cases h
  · rw [fi_some h2, fi_some h2'] at h
    rw [e1, e3, e1', e3']
    exact ⟨rfl, Option.some.inj h⟩

theorem af_of {xs ys : List R11} {f t r l u v : Int} {m : Nat} (ha : asC xs f t r l u v m = asC ys f t r l u v m) (h : (fiR xs f t r u v).map R11.p = (fiR ys f t r u v).map R11.p) :
    afV xs f t r l u v m = afV ys f t r l u v m := by
  rcases fr_ways xs f t r l u v m with ⟨_, h1, _, _, _, e1⟩ | ⟨h1, h2, _, _, _, e1⟩ | ⟨h1, h2, _, _, _, e1⟩ <;>
  rcases fr_ways ys f t r l u v m with ⟨_, h1', _, _, _, e1'⟩ | ⟨h1', h2', _, _, _, e1'⟩ | ⟨h1', h2', _, _, _, e1'⟩
  · rw [e1, e1']
  · exact absurd (ha.trans h1') h1
  · exact absurd (ha.trans h1') h1
  · exact absurd (ha.symm.trans h1) h1'
  · rw [e1, e1']
  · rw [fi_none h2, fi_some h2'] at h; cases h
  · exact absurd (ha.symm.trans h1) h1'
  · rw [fi_some h2, fi_none h2'] at h; cases h
  · rw [fi_some h2, fi_some h2'] at h
    rw [e1, e1']
    simpa using h

theorem as_of {xs ys : List R11} {f t r l u v : Int} {m : Nat} (hx : pyC xs = 0) (hy : pyC ys = 0) : asC xs f t r l u v m = asC ys f t r l u v m := by
  unfold asC; rw [if_pos hx, if_pos hy]

/-- Trimmed rules decide the same. -/
theorem tr_find (xs : List R11) (f t r u v : Int) (k : Nat) (hk : k ≤ xs.length) : fiR (trL xs k) f t r u v = fiR (xs.take k) f t r u v := by
  induction k with
  | zero => rw [trL_zero]; simp [fiR]
  | succ k ih =>
    have ih := ih (by omega)
    obtain ⟨x, hx⟩ : ∃ x, xs.getD k zRule = x := ⟨_, rfl⟩
    unfold fiR at *
    rw [trL_next, takeRule xs k (by omega), hx, List.find?_append, List.find?_append, ih]
    cases hs : shAt xs k
    · rfl
    · simp only [if_true, List.find?_nil]
      rw [List.find?_singleton]
      by_cases hp : inP x.s f t r u v = true
      · unfold shAt at hs
        rw [hx] at hs
        unfold shP at hs
        obtain ⟨y, hy, hw⟩ := List.any_eq_true.1 hs
        have h1 := inW_in hw hp
        cases hf : (xs.take k).find? fun x => inP x.s f t r u v with
        | none => have := List.find?_eq_none.1 hf y hy; simp only [h1, not_true] at this
        | some z => rfl
      · simp [hp]

theorem trL_mem {xs : List R11} {k : Nat} (hk : k ≤ xs.length) : ∀ x ∈ trL xs k, x ∈ xs := by
  intro x hx
  unfold trL at hx
  obtain ⟨i, hi, rfl⟩ := List.mem_map.1 hx
  have hi2 := List.mem_range.1 (List.mem_filter.1 hi).1
  exact getDRule_mem (by omega)

theorem tr_fault {xs : List R11} (h : pyC xs = 0) : pyC (trL xs xs.length) = 0 := by
  obtain ⟨h1, h2⟩ := pyC_zero h
  refine pyC_all ?_ fun x hx => h2 x (trL_mem (Nat.le_refl _) x hx)
  have := trL_le xs xs.length
  omega

theorem tr_first {xs : List R11} (h : pyC xs = 0) (f t r l u v : Int) (m : Nat) :
    frC (trL xs xs.length) f t r l u v m = frC xs f t r l u v m ∧ frR (trL xs xs.length) f t r l u v m = frR xs f t r l u v m :=
  fr_of (as_of (tr_fault h) h) (by rw [tr_find xs f t r u v xs.length (Nat.le_refl _), List.take_of_length_le (Nat.le_refl _)])

theorem sw_find (A B : List R11) (x y : R11) (P : R11 → Bool) (h : P x = true → P y = true → x.p = y.p) :
    ((A ++ y :: x :: B).find? P).map R11.p = ((A ++ x :: y :: B).find? P).map R11.p := by
  rw [List.find?_append, List.find?_append]
  cases A.find? P with
  | some z => rfl
  | none =>
    simp only [Option.none_or, List.find?_cons]
    cases hx : P x <;> cases hy : P y <;> simp
    exact (h hx hy).symm

/-- Rules that change places decide the same. -/
theorem sw_same {xs : List R11} {t0 : Int} (h : swC xs t0 = 0) (f t r l u v : Int) (m : Nat) :
    asC (swL xs t0) f t r l u v m = asC xs f t r l u v m ∧ afV (swL xs t0) f t r l u v m = afV xs f t r l u v m ∧ pyC (swL xs t0) = 0 := by
  rcases sw_ways2 xs t0 with ⟨h1, e1, _⟩ | ⟨_, _, e1, _⟩ | ⟨k, x, y, _, hk, h1, _, hx, hy, ⟨_, e1, _⟩ | ⟨hm, _, e2⟩⟩
  · rw [e1] at h; rw [h] at h1; simp at h1
  · omega
  · omega
  · obtain ⟨q1, q2⟩ := pyC_zero h1
    have hxm : x ∈ xs := by rw [← hx]; exact getDRule_mem (by omega)
    have hym : y ∈ xs := by rw [← hy]; exact getDRule_mem (by omega)
    have hpy : pyC (swL xs t0) = 0 := by
      rw [e2]
      refine pyC_all (by rw [List.length_set, List.length_set]; exact q1) fun z hz => ?_
      rcases List.mem_or_eq_of_mem_set hz with hz | rfl
      · rcases List.mem_or_eq_of_mem_set hz with hz | rfl
        · exact q2 z hz
        · exact q2 _ hym
      · exact q2 _ hxm
    have has := as_of (f := f) (t := t) (r := r) (l := l) (u := u) (v := v) (m := m) hpy h1
    refine ⟨has, ?_, hpy⟩
    by_cases hp : pfC f t r l u v m = 0
    · refine af_of has ?_
      have hd : xs = xs.take k ++ x :: y :: xs.drop (k + 2) := by
        have h3 := dropRule xs k (by omega)
        have h4 := dropRule xs (k + 1) (by omega)
        rw [hx] at h3
        rw [hy] at h4
        rw [h4] at h3
        rw [← h3, List.take_append_drop]
      have hl : (xs.take k).length = k := by rw [List.length_take]; omega
      have hs : (xs.set k y).set (k + 1) x = xs.take k ++ y :: x :: xs.drop (k + 2) := by
        generalize xs.take k = A at *
        generalize xs.drop (k + 2) = B at *
        subst hl
        rw [hd, List.set_append_right _ _ (Nat.le_refl _), Nat.sub_self, List.set_cons_zero, List.set_append_right _ _ (by omega), show A.length + 1 - A.length = 1 by omega, List.set_cons_succ, List.set_cons_zero]
      rw [e2, hs]
      have hd2 : fiR xs f t r u v = fiR (xs.take k ++ x :: y :: xs.drop (k + 2)) f t r u v := congrArg (fun z => fiR z f t r u v) hd
      rw [hd2]
      refine sw_find _ _ x y _ fun g1 g2 => ?_
      have hsx := (ru_zero (q2 x hxm)).1
      have hsy := (ru_zero (q2 y hym)).1
      rcases mc_ways x y with ⟨m1, _⟩ | ⟨_, _, m2⟩ | ⟨_, _, _, m2⟩ | ⟨_, m3, _⟩
      · have h5 := meet_holds hsx hsy f t r l u v m
        rw [hoP_in hsx hp, hoP_in hsy hp, g1, g2] at h5
        rw [bne_iff_ne] at m1
        simp [m1] at h5
      · rw [m2] at hm; cases hm
      · rw [m2] at hm; cases hm
      · simpa using m3
    · have hne : ∀ ys : List R11, pyC ys = 0 → asC ys f t r l u v m ≠ 0 := fun ys hy => by unfold asC; rw [if_pos hy]; exact hp
      have hz : ∀ ys : List R11, pyC ys = 0 → afV ys f t r l u v m = 0 := fun ys hy => by unfold afV; rw [if_neg (hne ys hy)]
      rw [hz _ hpy, hz _ h1]

end Go.Proofs.YtngkahchhioncaaDoor

/- Rules and answers compared with themselves; lengths told by name. -/
namespace Go.Proofs.YtngkahchhioncaaDoor
open Go.RowKit

theorem eqSelIn (x : S9) (w : World) : (Op.equalIn 9999 32 (.agg #[.int .i64 x.a, .int .i64 x.b, .int .i64 x.c, .int .i64 x.d, .int .i64 x.e, .int .i64 x.f, .int .i64 x.g, .int .i64 x.h, .int .i64 x.r]) (.agg #[.int .i64 x.a, .int .i64 x.b, .int .i64 x.c, .int .i64 x.d, .int .i64 x.e, .int .i64 x.f, .int .i64 x.g, .int .i64 x.h, .int .i64 x.r])).run Tryd.prog w = .ok true w := by
  have u3 := Tryd.underlying2
  have a3 := Tryd.isAgg2
  have z3 := Tryd.sizeOf2
  have ga := Tryd.isAgg30
  have gz := Tryd.sizeOf30
  have q := fun a b c e w => eqRng 9996 a b c e w
  have hS : Tryd.prog.underlying 32 = some (.struct (Tryd.prog.fieldsOf 32)) := by kernel_rfl
  rw [show (9999 : Nat) = 9998 + 1 from rfl, run_equalIn_agg w 9998 32 _ _ hS (by kernel_rfl)]
  simp only [Program.fieldsOf, Tryd.underlying32]
  go_simp

theorem eqRuleSelf (x : R11) (w : World) : (Op.equalIn 10000 34 (.agg #[.int .i64 x.s.a, .int .i64 x.s.b, .int .i64 x.s.c, .int .i64 x.s.d, .int .i64 x.s.e, .int .i64 x.s.f, .int .i64 x.s.g, .int .i64 x.s.h, .int .i64 x.s.r, .int .i64 x.p, .int .i64 x.q]) (.agg #[.int .i64 x.s.a, .int .i64 x.s.b, .int .i64 x.s.c, .int .i64 x.s.d, .int .i64 x.s.e, .int .i64 x.s.f, .int .i64 x.s.g, .int .i64 x.s.h, .int .i64 x.s.r, .int .i64 x.p, .int .i64 x.q])).run Tryd.prog w = .ok true w := by
  have u3 := Tryd.underlying2
  have a3 := Tryd.isAgg2
  have z3 := Tryd.sizeOf2
  have ga := Tryd.isAgg32
  have gz := Tryd.sizeOf32
  have q := eqSelIn
  have hS : Tryd.prog.underlying 34 = some (.struct (Tryd.prog.fieldsOf 34)) := by kernel_rfl
  rw [show (10000 : Nat) = 9999 + 1 from rfl, run_equalIn_agg w 9999 34 _ _ hS (by kernel_rfl)]
  simp only [Program.fieldsOf, Tryd.underlying34]
  go_simp

theorem neqRuleSelf (x : R11) (w : World) : (binOp .neq 34 (.agg #[.int .i64 x.s.a, .int .i64 x.s.b, .int .i64 x.s.c, .int .i64 x.s.d, .int .i64 x.s.e, .int .i64 x.s.f, .int .i64 x.s.g, .int .i64 x.s.h, .int .i64 x.s.r, .int .i64 x.p, .int .i64 x.q]) (.agg #[.int .i64 x.s.a, .int .i64 x.s.b, .int .i64 x.s.c, .int .i64 x.s.d, .int .i64 x.s.e, .int .i64 x.s.f, .int .i64 x.s.g, .int .i64 x.s.h, .int .i64 x.s.r, .int .i64 x.p, .int .i64 x.q])).run Tryd.prog w = .ok (.bool false) w := by
  rw [run_neq_struct, eqRuleSelf]
  rfl

theorem eqIrSelf (a b : Int) (w : World) : (Op.equalIn 10000 39 (.agg #[.int .i64 a, .int .i64 b]) (.agg #[.int .i64 a, .int .i64 b])).run Tryd.prog w = .ok true w := by
  have u3 := Tryd.underlying2
  have a3 := Tryd.isAgg2
  have z3 := Tryd.sizeOf2
  have hS : Tryd.prog.underlying 39 = some (.struct (Tryd.prog.fieldsOf 39)) := by kernel_rfl
  rw [show (10000 : Nat) = 9999 + 1 from rfl, run_equalIn_agg w 9999 39 _ _ hS (by kernel_rfl)]
  simp only [Program.fieldsOf, Tryd.underlying39]
  go_simp

theorem neqIrSelf (a b : Int) (w : World) : (binOp .neq 39 (.agg #[.int .i64 a, .int .i64 b]) (.agg #[.int .i64 a, .int .i64 b])).run Tryd.prog w = .ok (.bool false) w := by
  rw [run_neq_struct, eqIrSelf]
  rfl

theorem implShad_fix (a : Option Addr) (n ca : Nat) (xs : List R11) (K : Nat) (w : World) (ha : RdRule w a xs) (hn : xs.length = n) (hx : n ≤ maxLen) (hK : (srL xs).length = K) :
    Calls Tryd.prog 24 #[.slice a n ca] w fun e w' => ∃ (c : Option Addr) (d : Nat), e = .returned (.agg #[.int .i64 (pyC xs), .slice c K d]) ∧ Below w.heap.size w w' := by
  refine (implShadowedRules_ok a n ca xs w ha hn hx).mono ?_
  rintro e w' ⟨c, d, k, he, hk, _, hb⟩
  exact ⟨c, d, by rw [he, ← hK, hk], hb⟩

theorem specTrim_fix (a : Option Addr) (n ca : Nat) (xs : List R11) (K : Nat) (w : World) (ha : RdRule w a xs) (hn : xs.length = n) (hx : n ≤ maxLen) (hK : (tpL xs).length = K) :
    Calls Tryd.prog 21 #[.slice a n ca] w fun e w' => ∃ (c : Option Addr) (d : Nat), e = .returned (.agg #[.int .i64 (pyC xs), .slice c K d]) ∧ Below w.heap.size w w' := by
  refine (specTrimPolicy_ok a n ca xs w ha hn hx).mono ?_
  rintro e w' ⟨c, d, k, he, hk, _, hb⟩
  exact ⟨c, d, by rw [he, ← hK, hk], hb⟩

theorem specSwap_fix (a : Option Addr) (n ca : Nat) (xs : List R11) (t : Int) (K : Nat) (w : World) (ha : RdRule w a xs) (hn : xs.length = n) (hx : n ≤ maxLen) (ht : -9223372036854775808 ≤ t ∧ t ≤ 9223372036854775807) (hK : (swL xs t).length = K) :
    Calls Tryd.prog 23 #[.slice a n ca, .int .i64 t] w fun e w' => ∃ (c : Option Addr) (d : Nat), e = .returned (.agg #[.int .i64 (swC xs t), .slice c K d]) ∧ Below w.heap.size w w' := by
  refine (specSwapRules_ok a n ca xs t w ha hn hx ht).mono ?_
  rintro e w' ⟨c, d, k, he, hk, _, hb⟩
  exact ⟨c, d, by rw [he, ← hK, hk], hb⟩

theorem implTrim_fix (a : Option Addr) (n ca : Nat) (xs : List R11) (K : Nat) (w : World) (ha : RdRule w a xs) (hn : xs.length = n) (hx : n ≤ maxLen) (hK : (tpL xs).length = K) :
    Calls Tryd.prog 20 #[.slice a n ca] w fun e w' => ∃ (c : Option Addr) (d : Nat), e = .returned (.agg #[.int .i64 (pyC xs), .slice c K d]) ∧ RdRule w' c (tpL xs) ∧ Below w.heap.size w w' := by
  refine (implTrimPolicy_ok a n ca xs w ha hn hx).mono ?_
  rintro e w' ⟨c, d, k, he, hk, ho, hb⟩
  exact ⟨c, d, by rw [he, ← hK, hk], ho.rd, hb⟩

theorem implSwap_fix (a : Option Addr) (n ca : Nat) (xs : List R11) (t : Int) (K : Nat) (w : World) (ha : RdRule w a xs) (hn : xs.length = n) (hx : n ≤ maxLen) (ht : -9223372036854775808 ≤ t ∧ t ≤ 9223372036854775807) (hK : (swL xs t).length = K) :
    Calls Tryd.prog 22 #[.slice a n ca, .int .i64 t] w fun e w' => ∃ (c : Option Addr) (d : Nat), e = .returned (.agg #[.int .i64 (swC xs t), .slice c K d]) ∧ RdRule w' c (swL xs t) ∧ Below w.heap.size w w' := by
  refine (implSwapRules_ok a n ca xs t w ha hn hx ht).mono ?_
  rintro e w' ⟨c, d, k, he, hk, ho, hb⟩
  exact ⟨c, d, by rw [he, ← hK, hk], ho.rd, hb⟩

theorem fieldRs0 (k v : Value) (w : World) : (Instr.field 45 (.agg #[k, v]) 0).run Tryd.prog w = .ok k w := by kernel_rfl
theorem fieldRs1 (k v : Value) (w : World) : (Instr.field 45 (.agg #[k, v]) 1).run Tryd.prog w = .ok v w := by kernel_rfl
theorem fieldIs1 (k v : Value) (w : World) : (Instr.field 50 (.agg #[k, v]) 1).run Tryd.prog w = .ok v w := by kernel_rfl

end Go.Proofs.YtngkahchhioncaaDoor
