/- What is shadowed: the program. -/
import Derived.Test.YtngkahchhioncaaDoorPolG
import Derived.Test.YtngkahchhioncaaDoorPolC
import Derived.Test.YtngkahchhioncaaDoorNrB
namespace Go.Proofs.YtngkahchhioncaaDoor
open Go.RowKit

/-- Two rows that share no memory. -/
def Apart (a b : Option Addr) : Prop := ∀ x y : Addr, a = some x → b = some y → x.block ≠ y.block

theorem Apart.none_l {b : Option Addr} : Apart none b := fun _ _ h => by cases h

theorem Apart.symm {a b : Option Addr} (h : Apart a b) : Apart b a := fun x y hx hy e => h y x hy hx e.symm

theorem Apart.row {a b : Option Addr} (h : Apart a b) : ∀ x : Addr, a = some x → b.map Addr.block ≠ some x.block := by
  intro x hx
  cases b with
  | none => simp
  | some y => intro e; simp only [Option.map_some, Option.some.injEq] at e; exact h x y hx rfl e.symm

/-- The other one has grown. -/
theorem Apart.put {a b c : Option Addr} {n : Nat} {w' : World} (h : Apart a b) (hl : ∀ x, a = some x → x.block < n) (hx : ∃ g, c = some ⟨g, 0, none⟩ ∧ ((∃ a, b = some a ∧ a.block = g) ∨ g = n) ∧ g < w'.heap.size) : Apart a c := by
  intro x y hx1 hy
  obtain ⟨g, rfl, h1, _⟩ := hx
  simp only [Option.some.injEq] at hy
  subst hy
  have h2 := hl x hx1
  rcases h1 with ⟨z, h3, h4⟩ | h3
  · have := h x z hx1 h3
    simp only; omega
  · simp only; omega

theorem far_row {a : Option Addr} {base B : Nat} (h : ∀ b, a = some b → base ≤ b.block) (hB : B < base) : a.map Addr.block ≠ some B :=
  row_ne fun b hb => by have := h b hb; omega

/-- The selectors of the first 'k' rules. -/
def aheadS (xs : List R11) (k : Nat) : List S9 := (xs.take k).map R11.s

theorem any_within {xs : List R11} {z : S9} (h : ∀ x ∈ xs, sfC x.s = 0) (hz : sfC z = 0) (k : Nat) : ((aheadS xs k).any fun o => wiP z o) = shP xs z k := by
  unfold shP aheadS
  rw [List.any_map, Bool.eq_iff_iff, List.any_eq_true, List.any_eq_true]
  constructor
  · rintro ⟨y, hy, h1⟩
    refine ⟨y, hy, ?_⟩
    simp only [Function.comp] at h1
    unfold wiP at h1
    simp only [Bool.and_eq_true] at h1
    exact h1.2.2
  · rintro ⟨y, hy, h1⟩
    refine ⟨y, hy, ?_⟩
    simp only [Function.comp]
    unfold wiP
    simp only [Bool.and_eq_true, beq_iff_eq]
    exact ⟨hz, h y (List.mem_of_mem_take hy), h1⟩

theorem takeSels (xs : List R11) (k : Nat) (h : k < xs.length) {x : R11} (hx : xs.getD k zRule = x) : aheadS xs (k + 1) = aheadS xs k ++ [x.s] := by
  unfold aheadS
  rw [takeRule xs k h, List.map_append, hx]; rfl

theorem takeSels_len (xs : List R11) (k : Nat) (h : k ≤ xs.length) : (aheadS xs k).length = k := by
  unfold aheadS
  rw [List.length_map, List.length_take]; omega

set_option maxRecDepth 20000 in
set_option maxHeartbeats 8000000 in
theorem implShadowedRules_ok (a : Option Addr) (n ca : Nat) (xs : List R11) (w : World) (ha : RdRule w a xs) (hn : xs.length = n) (hx : n ≤ maxLen) :
    Calls Tryd.prog 24 #[.slice a n ca] w fun e w' => ∃ (c : Option Addr) (d k : Nat), e = .returned (.agg #[.int .i64 (pyC xs), .slice c k d]) ∧ (srL xs).length = k ∧ Own .i64 2 w' w.heap.size c d (srL xs) ∧ Below w.heap.size w w' := by
  have CP := Hid.mk (fun w h => implPolicyFault_ok a n ca xs w h hn hx)
  have q0 := build_is0
  have q1 := build_is1
  rcases sr_ways xs with ⟨h1, h2, e1⟩ | ⟨h1, e1⟩
  · rw [e1]
    clear e1
    generalize pyC xs = kk at *
    go_enter Tryd.func24, Tryd.ntmps24
    have B := Below.refl w.heap.size w
    replace ha := ha.kept (belowA w (.cells #[.int .i64 0, .slice none 0 0] 50))
    replace B := thenB B (belowA w (.cells #[.int .i64 0, .slice none 0 0] 50))
    have VR := V.new w [.int .i64 0, .slice none 0 0] 50
    obtain ⟨s_VR, f_VR, z_VR⟩ := VR.open
    have Bo := B
    go_wp2_with fail
    refine (CP.out _ ha).mono ?_
    rintro e w1 ⟨rfl, b1⟩
    clear s_VR f_VR z_VR
    have S1 := b1.size
    simp only [World.size_alloc] at S1
    replace VR := VR.kept b1
    replace ha := ha.kept b1
    replace B := thenB B b1
    clear b1
    obtain ⟨s_VR, f_VR, z_VR⟩ := VR.open
    have Bo := B
    clear s_VR f_VR z_VR
    have VF := Hid.mk (VR.filled [.int .i64 kk, .slice none 0 0] rfl)
    have BR := belowCells B (show w.heap.size ≤ w.heap.size by (first | omega | (simp; done) | (simp; omega))) 0 [.int .i64 kk, .slice none 0 0]
    have HT := Hid.mk VR.there
    replace BR := Hid.mk BR
    obtain ⟨s_VR, f_VR, z_VR⟩ := VR.open
    go_wp2_with (refine wpList_store_mid rfl 50 _ _ rfl (w.heap.size) 0 #[.int .i64 kk, .slice none 0 0] rfl rfl HT.out (by kernel_rfl) (by kernel_rfl) ?_)
    refine bodyPost_ret (v := .agg #[.int .i64 kk, .slice none 0 0]) (results_row Tryd.results24 _ _ (w.heap.size) [.int .i64 kk, .slice none 0 0] _ rfl VF.out Tryd.underlying50 rfl (by kernel_rfl)) rfl ⟨none, 0, 0, rfl, rfl, own_none, BR.out⟩
  · rw [e1, h1]
    rw [h1] at CP
    have hx20 : n ≤ 20 := by have := (pyC_zero h1).1; omega
    have hz := (pyC_zero h1).2
    have hzs : ∀ x ∈ xs, sfC x.s = 0 := fun x hx => (ru_zero (hz x hx)).1
    replace hzs := Hid.mk hzs
    have HA := Hid.mk ha
    rw [hn]
    clear e1 h1 hz
    go_enter Tryd.func24, Tryd.ntmps24
    have B := Below.refl w.heap.size w
    replace ha := ha.kept (belowA w (.cells #[.int .i64 0, .slice none 0 0] 50))
    replace B := thenB B (belowA w (.cells #[.int .i64 0, .slice none 0 0] 50))
    have VR := V.new w [.int .i64 0, .slice none 0 0] 50
    obtain ⟨s_VR, f_VR, z_VR⟩ := VR.open
    have Bo := B
    go_wp2_with fail
    refine (CP.out _ ha).mono ?_
    rintro e w6 ⟨rfl, b6⟩
    clear s_VR f_VR z_VR
    have S6 := b6.size
    simp only [World.size_alloc] at S6
    replace VR := VR.kept b6
    replace ha := ha.kept b6
    replace B := thenB B b6
    clear b6
    obtain ⟨s_VR, f_VR, z_VR⟩ := VR.open
    have Bo := B
    clear s_VR f_VR z_VR
    replace VR := Hid.mk VR
    replace B := Hid.mk B
    clear Bo ha CP
    go_wp2
    go_loopw [4, 5, 16] (fun va vp i wr => ∃ (k d1 j d2 : Nat) (c1 c2 : Option Addr), k ≤ n ∧ i = .int .i64 k ∧ va = .slice c1 k d1 ∧ vp = .slice c2 j d2 ∧ (shI xs k).length = j ∧ OwnL wr (w.heap.size + 1) c1 d1 (aheadS xs k) ∧ Own .i64 2 wr (w.heap.size + 1) c2 d2 (shI xs k) ∧ Apart c1 c2 ∧ V wr w.heap.size [.int .i64 0, .slice none 0 0] ∧ Below w.heap.size w wr) (fun _ _ i _ => n - (intOf i).toNat)
    case atStart => exact ⟨0, 0, 0, 0, none, none, Nat.zero_le _, rfl, rfl, rfl, rfl, OwnL.none, own_none, Apart.none_l, VR.out, B.out⟩
    case round =>
      clear VR B
      obtain ⟨k, d1, j, d2, c1, c2, hk, rfl, rfl, rfl, hj, O1, O2, AP, VR, B⟩ := hrel
      by_cases hlt : k < n
      · obtain ⟨x, hx1⟩ : ∃ x, xs.getD k zRule = x := ⟨_, rfl⟩
        have hk1 : (k : Int) < (n : Int) := by omega
        have hjk := shI_len xs k
        have hsx : sfC x.s = 0 := hzs.out x (by rw [← hx1]; exact getDRule_mem (by omega))
        have han := any_within hzs.out hsx k
        have hat : shAt xs k = shP xs x.s k := by unfold shAt; rw [hx1]
        have htl := takeSels_len xs k (by omega)
        have hts := takeSels xs k (by omega) hx1
        rw [← hat] at han
        have CW := Hid.mk (fun w h => isWithinAny_ok x.s c1 k d1 (aheadS xs k) w h htl (by unfold maxLen; omega))
        rw [han] at CW
        have hb0 := HA.out.kept B
        rcases hb0 with h0 | ⟨b1, o1, rfl, hca⟩
        · rw [h0] at hn; simp at hn; omega
        obtain ⟨p0, p1, p2, p3, p4, p5, p6, p7, p8, p9, p10⟩ := RdRule.cells hca k (by omega) x hx1
        have hj20 : j ≤ 20 := by omega
        have HJ := Hid.mk hj
        have HTL := Hid.mk htl
        replace hts := Hid.mk hts
        have hVR := VR.1
        have hl1 := O1.lt
        have hl2 := O2.lt
        have F1 : ∀ b : Addr, c1 = some b → b.block ≠ wr.heap.size := fun b hb => by have := (hl1 b hb).2; omega
        have F2 : ∀ b : Addr, c2 = some b → b.block ≠ wr.heap.size := fun b hb => by have := (hl2 b hb).2; omega
        replace F1 := Hid.mk F1
        replace F2 := Hid.mk F2
        replace AP := Hid.mk AP
        clear hca hx1 han hat htl hj hl1 hl2 hsx
        replace VR := VR.kept (belowA wr (.cells #[.int .i64 x.s.a, .int .i64 x.s.b, .int .i64 x.s.c, .int .i64 x.s.d, .int .i64 x.s.e, .int .i64 x.s.f, .int .i64 x.s.g, .int .i64 x.s.h, .int .i64 x.s.r, .int .i64 x.p, .int .i64 x.q] 34))
        replace O1 := O1.kept (belowA wr (.cells #[.int .i64 x.s.a, .int .i64 x.s.b, .int .i64 x.s.c, .int .i64 x.s.d, .int .i64 x.s.e, .int .i64 x.s.f, .int .i64 x.s.g, .int .i64 x.s.h, .int .i64 x.s.r, .int .i64 x.p, .int .i64 x.q] 34))
        replace O2 := O2.kept (belowA wr (.cells #[.int .i64 x.s.a, .int .i64 x.s.b, .int .i64 x.s.c, .int .i64 x.s.d, .int .i64 x.s.e, .int .i64 x.s.f, .int .i64 x.s.g, .int .i64 x.s.h, .int .i64 x.s.r, .int .i64 x.p, .int .i64 x.q] 34))
        replace B := thenB B (belowA wr (.cells #[.int .i64 x.s.a, .int .i64 x.s.b, .int .i64 x.s.c, .int .i64 x.s.d, .int .i64 x.s.e, .int .i64 x.s.f, .int .i64 x.s.g, .int .i64 x.s.h, .int .i64 x.s.r, .int .i64 x.p, .int .i64 x.q] 34))
        have VX := V.new wr [.int .i64 x.s.a, .int .i64 x.s.b, .int .i64 x.s.c, .int .i64 x.s.d, .int .i64 x.s.e, .int .i64 x.s.f, .int .i64 x.s.g, .int .i64 x.s.h, .int .i64 x.s.r, .int .i64 x.p, .int .i64 x.q] 34
        obtain ⟨s_VR, f_VR, z_VR⟩ := VR.open
        obtain ⟨s_VX, f_VX, z_VX⟩ := VX.open
        have Bo := B
        go_wp2_with fail
        refine (CW.out _ O1.rd).mono ?_
        rintro e w41 ⟨rfl, b41⟩
        clear s_VR f_VR z_VR s_VX f_VX z_VX
        have S41 := b41.size
        simp only [World.size_alloc] at S41
        replace VR := VR.kept b41
        replace VX := VX.kept b41
        replace O1 := O1.kept b41
        replace O2 := O2.kept b41
        replace B := thenB B b41
        clear b41
        obtain ⟨s_VR, f_VR, z_VR⟩ := VR.open
        obtain ⟨s_VX, f_VX, z_VX⟩ := VX.open
        have Bo := B
        clear p0 p1 p2 p3 p4 p5 p6 p7 p8 p9 p10
        have hBs := B.size
        have hVR := VR.1
        have hVX := VX.1
        generalize hBx : wr.heap.size = Bx at *
        cases hg : shAt xs k
        · skip
          have hno := Hid.mk (shI_no hg)
          skip
          clear s_VR f_VR z_VR s_VX f_VX z_VX
          obtain ⟨s_VX, f_VX, z_VX⟩ := VX.open
          have OL := O1.kept (belowA w41 (.cells #[.int .i64 x.s.a, .int .i64 x.s.b, .int .i64 x.s.c, .int .i64 x.s.d, .int .i64 x.s.e, .int .i64 x.s.f, .int .i64 x.s.g, .int .i64 x.s.h, .int .i64 x.s.r] 32))
          have O2L := Hid.mk (O2.kept (belowA w41 (.cells #[.int .i64 x.s.a, .int .i64 x.s.b, .int .i64 x.s.c, .int .i64 x.s.d, .int .i64 x.s.e, .int .i64 x.s.f, .int .i64 x.s.g, .int .i64 x.s.h, .int .i64 x.s.r] 32)))
          have VRL := Hid.mk (VR.kept (belowA w41 (.cells #[.int .i64 x.s.a, .int .i64 x.s.b, .int .i64 x.s.c, .int .i64 x.s.d, .int .i64 x.s.e, .int .i64 x.s.f, .int .i64 x.s.g, .int .i64 x.s.h, .int .i64 x.s.r] 32)))
          have BL := thenB B (belowA w41 (.cells #[.int .i64 x.s.a, .int .i64 x.s.b, .int .i64 x.s.c, .int .i64 x.s.d, .int .i64 x.s.e, .int .i64 x.s.f, .int .i64 x.s.g, .int .i64 x.s.h, .int .i64 x.s.r] 32))
          have TL : w.heap.size + 1 ≤ (w41.alloc (.cells #[.int .i64 x.s.a, .int .i64 x.s.b, .int .i64 x.s.c, .int .i64 x.s.d, .int .i64 x.s.e, .int .i64 x.s.f, .int .i64 x.s.g, .int .i64 x.s.h, .int .i64 x.s.r] 32)).heap.size := by have := VRL.out.1; omega
          have OLT := OL.lt
          have O2T := O2L.out.lt
          replace BL := Hid.mk BL
          replace OLT := Hid.mk OLT
          replace O2T := Hid.mk O2T
          clear O1 O2 VR B Bo
          go_wp2_with (at_builtin; go_loud (refine wpList_putL _ rfl _ _ rfl (w.heap.size + 1) c1 d1 (aheadS xs k) k HTL.out rfl OL _ 1 x.s rfl (newCells _ _ (rowV x.s)) (by omega) TL ?_))
          intro c6 d6 w6 O6 hg6 hx6
          rw [← hts.out] at O6
          have O7 := O2L.out.grown hg6 AP.out.symm.row
          have AP7 := (Apart.put AP.out.symm (fun b hb => by have := (O2T.out b hb).2; simpa using this) hx6.out).symm
          have VR7 := VRL.out.grownR hg6 (far_row (fun b hb => (OLT.out b hb).1) (Nat.lt_succ_self _))
          have B7 := belowG BL.out hg6 (Nat.le_of_succ_le TL) (fun b hb => by have := (OLT.out b hb).1; omega)
          clear OL O2L VRL BL OLT O2T s_VX f_VX z_VX VX hg6 hx6
          replace O6 := Hid.mk O6
          replace O7 := Hid.mk O7
          replace AP7 := Hid.mk AP7
          replace VR7 := Hid.mk VR7
          replace B7 := Hid.mk B7
          go_wp2
          go_roundw
          case rel => exact ⟨k + 1, d6, j, d2, c6, c2, by omega, by go_num, rfl, rfl, by rw [hno.out]; exact HJ.out, O6.out, by rw [hno.out]; exact O7.out, AP7.out, VR7.out, B7.out⟩
          case measure => simp [intOf]; omega
        · skip
          clear s_VR f_VR z_VR s_VX f_VX z_VX
          have hyes := Hid.mk (shI_yes hg)
          obtain ⟨s_VX, f_VX, z_VX⟩ := VX.open
          have O2L := O2.kept (belowA w41 (.cells #[.int .i64 k] 2))
          have O1L := Hid.mk (O1.kept (belowA w41 (.cells #[.int .i64 k] 2)))
          have VRL := Hid.mk (VR.kept (belowA w41 (.cells #[.int .i64 k] 2)))
          have VXL := Hid.mk (VX.kept (belowA w41 (.cells #[.int .i64 k] 2)))
          have BL := Hid.mk (thenB B (belowA w41 (.cells #[.int .i64 k] 2)))
          have TL : w.heap.size + 1 ≤ (w41.alloc (.cells #[.int .i64 k] 2)).heap.size := by have := VRL.out.1; omega
          have OLT := Hid.mk O1L.out.lt
          have O2T := Hid.mk O2L.lt
          clear O1 O2 VR VX B Bo
          go_wp2_with (at_builtin; go_loud (refine wpList_putI _ rfl _ _ rfl (w.heap.size + 1) c2 d2 (shI xs k) j HJ.out rfl O2L _ 1 (k : Int) rfl (cell_one' _ _ _ 0 _ rfl) (by omega) TL ?_))
          intro c4 d4 w4 O4 hg4 hx4
          rw [← hyes.out] at O4
          have O1 := O1L.out.grown hg4 AP.out.row
          have AP4 := Hid.mk (Apart.put AP.out (fun b hb => by have := (OLT.out b hb).2; simpa using this) hx4.out)
          have VR := VRL.out.grownR hg4 (far_row (fun b hb => (O2T.out b hb).1) (Nat.lt_succ_self _))
          have VX := VXL.out.grownR hg4 (row_ne F2.out)
          have B := belowG BL.out hg4 (Nat.le_of_succ_le TL) (fun b hb => by have := (O2T.out b hb).1; omega)
          have hl4 : Hid ((shI xs (k + 1)).length = j + 1) := Hid.mk (by rw [hyes.out, List.length_append, HJ.out]; rfl)
          have Bo := B
          clear O2L O1L VRL VXL BL OLT O2T s_VX f_VX z_VX hg4 hx4 TL
          obtain ⟨s_VX, f_VX, z_VX⟩ := VX.open
          have OL := O1.kept (belowA w4 (.cells #[.int .i64 x.s.a, .int .i64 x.s.b, .int .i64 x.s.c, .int .i64 x.s.d, .int .i64 x.s.e, .int .i64 x.s.f, .int .i64 x.s.g, .int .i64 x.s.h, .int .i64 x.s.r] 32))
          have O2L := Hid.mk (O4.kept (belowA w4 (.cells #[.int .i64 x.s.a, .int .i64 x.s.b, .int .i64 x.s.c, .int .i64 x.s.d, .int .i64 x.s.e, .int .i64 x.s.f, .int .i64 x.s.g, .int .i64 x.s.h, .int .i64 x.s.r] 32)))
          have VRL := Hid.mk (VR.kept (belowA w4 (.cells #[.int .i64 x.s.a, .int .i64 x.s.b, .int .i64 x.s.c, .int .i64 x.s.d, .int .i64 x.s.e, .int .i64 x.s.f, .int .i64 x.s.g, .int .i64 x.s.h, .int .i64 x.s.r] 32)))
          have BL := thenB B (belowA w4 (.cells #[.int .i64 x.s.a, .int .i64 x.s.b, .int .i64 x.s.c, .int .i64 x.s.d, .int .i64 x.s.e, .int .i64 x.s.f, .int .i64 x.s.g, .int .i64 x.s.h, .int .i64 x.s.r] 32))
          have TL : w.heap.size + 1 ≤ (w4.alloc (.cells #[.int .i64 x.s.a, .int .i64 x.s.b, .int .i64 x.s.c, .int .i64 x.s.d, .int .i64 x.s.e, .int .i64 x.s.f, .int .i64 x.s.g, .int .i64 x.s.h, .int .i64 x.s.r] 32)).heap.size := by have := VRL.out.1; omega
          have OLT := OL.lt
          have O2T := O2L.out.lt
          replace BL := Hid.mk BL
          replace OLT := Hid.mk OLT
          replace O2T := Hid.mk O2T
          clear O1 O4 VR B Bo
          go_wp2_with (at_builtin; go_loud (refine wpList_putL _ rfl _ _ rfl (w.heap.size + 1) c1 d1 (aheadS xs k) k HTL.out rfl OL _ 1 x.s rfl (newCells _ _ (rowV x.s)) (by omega) TL ?_))
          intro c6 d6 w6 O6 hg6 hx6
          rw [← hts.out] at O6
          have O7 := O2L.out.grown hg6 AP4.out.symm.row
          have AP7 := (Apart.put AP4.out.symm (fun b hb => by have := (O2T.out b hb).2; simpa using this) hx6.out).symm
          have VR7 := VRL.out.grownR hg6 (far_row (fun b hb => (OLT.out b hb).1) (Nat.lt_succ_self _))
          have B7 := belowG BL.out hg6 (Nat.le_of_succ_le TL) (fun b hb => by have := (OLT.out b hb).1; omega)
          clear OL O2L VRL BL OLT O2T s_VX f_VX z_VX VX hg6 hx6
          replace O6 := Hid.mk O6
          replace O7 := Hid.mk O7
          replace AP7 := Hid.mk AP7
          replace VR7 := Hid.mk VR7
          replace B7 := Hid.mk B7
          go_wp2
          go_roundw
          case rel => exact ⟨k + 1, d6, j + 1, d4, c6, c4, by omega, by go_num, rfl, rfl, hl4.out, O6.out, O7.out, AP7.out, VR7.out, B7.out⟩
          case measure => simp [intOf]; omega
      · obtain rfl : k = n := by omega
        have HO := Hid.mk (O2.mono (show w.heap.size ≤ _ by omega))
        have HK := Hid.mk hj
        have HC := Hid.mk (fun b hb => (O2.lt b hb).1)
        clear O1 O2 hj AP
        obtain ⟨s_VR, f_VR, z_VR⟩ := VR.open
        have Bo := B
        clear s_VR f_VR z_VR
        have VF := Hid.mk (VR.filled [.int .i64 0, .slice c2 j d2] rfl)
        have BR := belowCells B (show w.heap.size ≤ w.heap.size by (first | omega | (simp; done) | (simp; omega))) 0 [.int .i64 0, .slice c2 j d2]
        have HT := Hid.mk VR.there
        replace BR := Hid.mk BR
        obtain ⟨s_VR, f_VR, z_VR⟩ := VR.open
        go_wp2_with (refine wpList_store_mid rfl 50 _ _ rfl (w.heap.size) 0 #[.int .i64 0, .slice c2 j d2] rfl rfl HT.out (by kernel_rfl) (by kernel_rfl) ?_)
        refine bodyPost_ret (v := .agg #[.int .i64 0, .slice c2 j d2]) (results_row Tryd.results24 _ _ (w.heap.size) [.int .i64 0, .slice c2 j d2] _ rfl VF.out Tryd.underlying50 rfl (by kernel_rfl)) rfl ⟨c2, d2, j, rfl, HK.out, ownCells HO.out (by intro b hb; have := HC.out b hb; omega) _ _, BR.out⟩

end Go.Proofs.YtngkahchhioncaaDoor
