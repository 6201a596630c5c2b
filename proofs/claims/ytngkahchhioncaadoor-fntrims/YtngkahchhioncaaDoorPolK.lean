/- The policy trimmed. -/
import Derived.Test.YtngkahchhioncaaDoorPolI
import Derived.Test.YtngkahchhioncaaDoorPolD
import Derived.Test.YtngkahchhioncaaDoorRuleG
import Derived.Deep.DeepCutAuto
namespace Go.Proofs.YtngkahchhioncaaDoor
open Go.RowKit

/-- What is read stays where another row has grown. -/
theorem rd_far {k : IntKind} {w w' : World} {a c : Option Addr} {zs : List Int} (h : Rd k w a zs) (hg : w.grownBy w' (c.map Addr.block)) (hne : ∀ b : Addr, c = some b → ∀ b' : Addr, a = some b' → b.block ≠ b'.block) : Rd k w' a zs := by
  rcases h with h | ⟨b, off, rfl, hc⟩
  · exact .inl h
  · refine .inr ⟨b, off, rfl, fun i hi => ?_⟩
    exact hg.cell (hc i hi) fun e => by
      cases c with
      | none => cases e
      | some y => simp only [Option.map_some, Option.some.injEq] at e; exact hne y rfl _ rfl e.symm

/-- What 'TrimPolicy' answers beside its code. -/
@[irreducible] def tpL (xs : List R11) : List R11 := if pyC xs = 0 then trL xs xs.length else []

theorem tp_ways (xs : List R11) : ((pyC xs != 0) = true ∧ pyC xs ≠ 0 ∧ tpL xs = []) ∨ (pyC xs = 0 ∧ tpL xs = trL xs xs.length) := by
  unfold tpL
  by_cases h : pyC xs = 0
  · exact .inr ⟨h, by rw [if_pos h]⟩
  · exact .inl ⟨by simp [h], h, by rw [if_neg h]⟩

theorem trL_le (xs : List R11) (k : Nat) : (trL xs k).length ≤ k := by have := trL_len xs k; omega

theorem tpL_len (xs : List R11) : (tpL xs).length ≤ 20 := by
  rcases tp_ways xs with ⟨_, _, h⟩ | ⟨h1, h⟩
  · rw [h]; exact Nat.zero_le _
  · rw [h]; have := trL_le xs xs.length; have := (pyC_zero h1).1; omega

theorem in_sh {xs : List R11} {n k : Nat} (hk : k < n) : inL (shI xs n) (k : Int) = shAt xs k := by
  unfold inL shI
  rw [Bool.eq_iff_iff, List.any_eq_true]
  constructor
  · rintro ⟨z, hz, he⟩
    obtain ⟨i, hi, rfl⟩ := List.mem_map.1 hz
    simp only [beq_iff_eq] at he
    obtain rfl : i = k := by omega
    exact (shL_mem.1 hi).2
  · intro h
    exact ⟨(k : Int), List.mem_map.2 ⟨k, shL_mem.2 ⟨hk, h⟩, rfl⟩, by simp⟩

theorem trL_yes {xs : List R11} {k : Nat} (h : shAt xs k = true) : trL xs (k + 1) = trL xs k := by
  rw [trL_next, if_pos h, List.append_nil]

theorem trL_no {xs : List R11} {k : Nat} {x : R11} (h : shAt xs k = false) (hx : xs.getD k zRule = x) : trL xs (k + 1) = trL xs k ++ [x] := by
  rw [trL_next, if_neg (by rw [h]; simp), hx]


set_option maxRecDepth 20000 in
set_option maxHeartbeats 8000000 in
theorem implTrimPolicy_ok (a : Option Addr) (n ca : Nat) (xs : List R11) (w : World) (ha : RdRule w a xs) (hn : xs.length = n) (hx : n ≤ maxLen) :
    Calls Tryd.prog 20 #[.slice a n ca] w fun e w' => ∃ (c : Option Addr) (d k : Nat), e = .returned (.agg #[.int .i64 (pyC xs), .slice c k d]) ∧ (tpL xs).length = k ∧ OwnRule w' w.heap.size c d (tpL xs) ∧ Below w.heap.size w w' := by
  have q0 := build_rs0
  have q1 := build_rs1
  have q2 := build_rsZ
  have CP := Hid.mk (fun w h => implShadowedRules_ok a n ca xs w h hn hx)
  rcases tp_ways xs with ⟨h1, h2, e1⟩ | ⟨h1, e1⟩
  · rw [e1]
    clear e1
    have hsr : srL xs = [] := by rcases sr_ways xs with ⟨_, _, h⟩ | ⟨h, _⟩; exact h; exact absurd h h2
    rw [hsr] at CP
    clear hsr h2
    generalize pyC xs = kk at *
    go_enter Tryd.func20, Tryd.ntmps20
    have B := Below.refl w.heap.size w
    replace ha := ha.kept (belowA w (.cells #[.int .i64 0, .slice none 0 0] 45))
    replace B := thenB B (belowA w (.cells #[.int .i64 0, .slice none 0 0] 45))
    have VR := V.new w [.int .i64 0, .slice none 0 0] 45
    obtain ⟨s_VR, f_VR, z_VR⟩ := VR.open
    have Bo := B
    go_wp2_with fail
    refine (CP.out _ ha).mono ?_
    rintro e w1 ⟨cs, ds, ks, rfl, hks, os, b1⟩
    clear s_VR f_VR z_VR
    have S1 := b1.size
    simp only [World.size_alloc] at S1
    replace VR := VR.kept b1
    replace ha := ha.kept b1
    replace B := thenB B b1
    clear b1
    obtain ⟨s_VR, f_VR, z_VR⟩ := VR.open
    have Bo := B
    clear hks os
    replace VR := VR.kept (belowA w1 (.cells #[.int .i64 kk, .slice cs ks ds] 50))
    replace ha := ha.kept (belowA w1 (.cells #[.int .i64 kk, .slice cs ks ds] 50))
    replace B := thenB B (belowA w1 (.cells #[.int .i64 kk, .slice cs ks ds] 50))
    have VS := V.new w1 [.int .i64 kk, .slice cs ks ds] 50
    clear s_VR f_VR z_VR
    obtain ⟨s_VR, f_VR, z_VR⟩ := VR.open
    obtain ⟨s_VS, f_VS, z_VS⟩ := VS.open
    replace Bo := B
    clear s_VR f_VR z_VR s_VS f_VS z_VS
    have VF := Hid.mk (VR.filled [.int .i64 kk, .slice none 0 0] rfl)
    have BR := belowCells B (show w.heap.size ≤ w.heap.size by (first | omega | (simp; done) | (simp; omega))) 0 [.int .i64 kk, .slice none 0 0]
    have HT := Hid.mk VR.there
    replace BR := Hid.mk BR
    obtain ⟨s_VR, f_VR, z_VR⟩ := VR.open
    obtain ⟨s_VS, f_VS, z_VS⟩ := VS.open
    go_wp2_with (refine wpList_store_mid rfl 45 _ _ rfl (w.heap.size) 0 #[.int .i64 kk, .slice none 0 0] rfl rfl HT.out (by kernel_rfl) (by kernel_rfl) ?_)
    refine bodyPost_ret (v := .agg #[.int .i64 kk, .slice none 0 0]) (results_row Tryd.results20 _ _ (w.heap.size) [.int .i64 kk, .slice none 0 0] _ rfl VF.out Tryd.underlying45 rfl (by kernel_rfl)) rfl ⟨none, 0, 0, rfl, rfl, OwnRule.none, BR.out⟩
  · have hx20 : n ≤ 20 := by have := (pyC_zero h1).1; omega
    have hsr : srL xs = shI xs n := by
      rcases sr_ways xs with ⟨_, h, _⟩ | ⟨_, h⟩
      · exact absurd h1 h
      · rw [h, hn]
    rw [hsr, h1] at CP
    rw [e1, h1, hn]
    have HA := Hid.mk ha
    clear e1 h1 hsr
    go_enter Tryd.func20, Tryd.ntmps20
    have B := Below.refl w.heap.size w
    replace ha := ha.kept (belowA w (.cells #[.int .i64 0, .slice none 0 0] 45))
    replace B := thenB B (belowA w (.cells #[.int .i64 0, .slice none 0 0] 45))
    have VR := V.new w [.int .i64 0, .slice none 0 0] 45
    obtain ⟨s_VR, f_VR, z_VR⟩ := VR.open
    have Bo := B
    go_wp2_with fail
    refine (CP.out _ ha).mono ?_
    rintro e w11 ⟨cs, ds, ks, rfl, hks, os, b11⟩
    clear s_VR f_VR z_VR
    have S11 := b11.size
    simp only [World.size_alloc] at S11
    replace VR := VR.kept b11
    replace ha := ha.kept b11
    replace B := thenB B b11
    clear b11
    obtain ⟨s_VR, f_VR, z_VR⟩ := VR.open
    have Bo := B
    have hks20 := shI_len xs n
    rw [hks] at hks20
    have HSL : Hid (∀ b : Addr, cs = some b → b.block < w11.heap.size) := Hid.mk (fun b hb => (os.lt b hb).2)
    replace VR := VR.kept (belowA w11 (.cells #[.int .i64 0, .slice cs ks ds] 50))
    replace ha := ha.kept (belowA w11 (.cells #[.int .i64 0, .slice cs ks ds] 50))
    replace os := os.kept (belowA w11 (.cells #[.int .i64 0, .slice cs ks ds] 50))
    replace B := thenB B (belowA w11 (.cells #[.int .i64 0, .slice cs ks ds] 50))
    have VS := V.new w11 [.int .i64 0, .slice cs ks ds] 50
    clear s_VR f_VR z_VR
    obtain ⟨s_VR, f_VR, z_VR⟩ := VR.open
    obtain ⟨s_VS, f_VS, z_VS⟩ := VS.open
    replace Bo := B
    clear s_VR f_VR z_VR s_VS f_VS z_VS
    have hVS := VS.1
    have hVR := VR.1
    have HB := Hid.mk B
    have HO := Hid.mk os.rd
    replace hks := Hid.mk hks
    replace VR := Hid.mk VR
    replace VS := Hid.mk VS
    have hsz : w.heap.size + 1 ≤ w11.heap.size := by have := S11; omega
    clear B Bo ha os CP
    go_wp2
    go_loopw [4, 17] (fun v i wr => ∃ (k d j : Nat) (c : Option Addr), k ≤ n ∧ i = .int .i64 k ∧ v = .slice c j d ∧ (trL xs k).length = j ∧ OwnRule wr (w11.heap.size + 1) c d (trL xs k) ∧ V wr w.heap.size [.int .i64 0, .slice none 0 0] ∧ V wr (w11.heap.size) [.int .i64 0, .slice cs ks ds] ∧ Rd .i64 wr cs (shI xs n) ∧ Below w.heap.size w wr) (fun _ i _ => n - (intOf i).toNat)
    case atStart => exact ⟨0, 0, 0, none, Nat.zero_le _, rfl, rfl, rfl, OwnRule.none, VR.out, VS.out, HO.out, HB.out⟩
    case round =>
      clear VR VS HO HB
      obtain ⟨k, d, j, c, hk, rfl, rfl, hj, O, VR, VS, RS, B⟩ := hrel
      by_cases hlt : k < n
      · obtain ⟨x, hx1⟩ : ∃ x, xs.getD k zRule = x := ⟨_, rfl⟩
        have hk1 : (k : Int) < (n : Int) := by omega
        have hjk := trL_le xs k
        have hj20 : j ≤ 20 := by omega
        have hin := in_sh (xs := xs) hlt
        have CC := Hid.mk (fun w h => contains_ok cs ks ds (shI xs n) (k : Int) w h hks.out (by unfold maxLen; omega))
        rw [hin] at CC
        rcases HA.out.kept B with h0 | ⟨b1, o1, rfl, hca⟩
        · rw [h0] at hn; simp at hn; omega
        obtain ⟨p0, p1, p2, p3, p4, p5, p6, p7, p8, p9, p10⟩ := RdRule.cells hca k (by omega) x hx1
        have HJ := Hid.mk hj
        have hVR := VR.1
        have hVS := VS.1
        have hOl := O.lt
        have F1 : Hid (∀ b : Addr, c = some b → b.block ≠ wr.heap.size) := Hid.mk (fun b hb => by have := (hOl b hb).2; omega)
        have F2 : Hid (∀ b : Addr, c = some b → b.block ≠ w11.heap.size) := Hid.mk (fun b hb => by have := (hOl b hb).1; omega)
        have F3 : Hid (∀ b : Addr, c = some b → b.block ≠ w.heap.size) := Hid.mk (fun b hb => by have := (hOl b hb).1; omega)
        clear hca hin hj hOl
        replace hx1 := Hid.mk hx1
        replace VR := VR.kept (belowA wr (.cells #[.int .i64 x.s.a, .int .i64 x.s.b, .int .i64 x.s.c, .int .i64 x.s.d, .int .i64 x.s.e, .int .i64 x.s.f, .int .i64 x.s.g, .int .i64 x.s.h, .int .i64 x.s.r, .int .i64 x.p, .int .i64 x.q] 34))
        replace VS := VS.kept (belowA wr (.cells #[.int .i64 x.s.a, .int .i64 x.s.b, .int .i64 x.s.c, .int .i64 x.s.d, .int .i64 x.s.e, .int .i64 x.s.f, .int .i64 x.s.g, .int .i64 x.s.h, .int .i64 x.s.r, .int .i64 x.p, .int .i64 x.q] 34))
        replace O := O.kept (belowA wr (.cells #[.int .i64 x.s.a, .int .i64 x.s.b, .int .i64 x.s.c, .int .i64 x.s.d, .int .i64 x.s.e, .int .i64 x.s.f, .int .i64 x.s.g, .int .i64 x.s.h, .int .i64 x.s.r, .int .i64 x.p, .int .i64 x.q] 34))
        replace RS := RS.kept (belowA wr (.cells #[.int .i64 x.s.a, .int .i64 x.s.b, .int .i64 x.s.c, .int .i64 x.s.d, .int .i64 x.s.e, .int .i64 x.s.f, .int .i64 x.s.g, .int .i64 x.s.h, .int .i64 x.s.r, .int .i64 x.p, .int .i64 x.q] 34))
        replace B := thenB B (belowA wr (.cells #[.int .i64 x.s.a, .int .i64 x.s.b, .int .i64 x.s.c, .int .i64 x.s.d, .int .i64 x.s.e, .int .i64 x.s.f, .int .i64 x.s.g, .int .i64 x.s.h, .int .i64 x.s.r, .int .i64 x.p, .int .i64 x.q] 34))
        have VX := V.new wr [.int .i64 x.s.a, .int .i64 x.s.b, .int .i64 x.s.c, .int .i64 x.s.d, .int .i64 x.s.e, .int .i64 x.s.f, .int .i64 x.s.g, .int .i64 x.s.h, .int .i64 x.s.r, .int .i64 x.p, .int .i64 x.q] 34
        obtain ⟨s_VR, f_VR, z_VR⟩ := VR.open
        obtain ⟨s_VS, f_VS, z_VS⟩ := VS.open
        obtain ⟨s_VX, f_VX, z_VX⟩ := VX.open
        have Bo := B
        go_wp2_with fail
        refine (CC.out _ RS).mono ?_
        rintro e w41 ⟨rfl, b41⟩
        clear s_VR f_VR z_VR s_VS f_VS z_VS s_VX f_VX z_VX
        have S41 := b41.size
        simp only [World.size_alloc] at S41
        replace VR := VR.kept b41
        replace VS := VS.kept b41
        replace VX := VX.kept b41
        replace O := O.kept b41
        replace RS := RS.kept b41
        replace B := thenB B b41
        clear b41
        obtain ⟨s_VR, f_VR, z_VR⟩ := VR.open
        obtain ⟨s_VS, f_VS, z_VS⟩ := VS.open
        obtain ⟨s_VX, f_VX, z_VX⟩ := VX.open
        have Bo := B
        clear p0 p1 p2 p3 p4 p5 p6 p7 p8 p9 p10
        have hVX := VX.1
        have hVR := VR.1
        have hVS := VS.1
        generalize hBx : wr.heap.size = Bx at *
        cases hg : shAt xs k
        · skip
          clear s_VR f_VR z_VR s_VS f_VS z_VS s_VX f_VX z_VX
          have hno := Hid.mk (trL_no hg hx1.out)
          obtain ⟨s_VX, f_VX, z_VX⟩ := VX.open
          have OL := O.kept (belowA w41 (.cells #[.int .i64 x.s.a, .int .i64 x.s.b, .int .i64 x.s.c, .int .i64 x.s.d, .int .i64 x.s.e, .int .i64 x.s.f, .int .i64 x.s.g, .int .i64 x.s.h, .int .i64 x.s.r, .int .i64 x.p, .int .i64 x.q] 34))
          have VRL := Hid.mk (VR.kept (belowA w41 (.cells #[.int .i64 x.s.a, .int .i64 x.s.b, .int .i64 x.s.c, .int .i64 x.s.d, .int .i64 x.s.e, .int .i64 x.s.f, .int .i64 x.s.g, .int .i64 x.s.h, .int .i64 x.s.r, .int .i64 x.p, .int .i64 x.q] 34)))
          have VSL := Hid.mk (VS.kept (belowA w41 (.cells #[.int .i64 x.s.a, .int .i64 x.s.b, .int .i64 x.s.c, .int .i64 x.s.d, .int .i64 x.s.e, .int .i64 x.s.f, .int .i64 x.s.g, .int .i64 x.s.h, .int .i64 x.s.r, .int .i64 x.p, .int .i64 x.q] 34)))
          have RSL := Hid.mk (RS.kept (belowA w41 (.cells #[.int .i64 x.s.a, .int .i64 x.s.b, .int .i64 x.s.c, .int .i64 x.s.d, .int .i64 x.s.e, .int .i64 x.s.f, .int .i64 x.s.g, .int .i64 x.s.h, .int .i64 x.s.r, .int .i64 x.p, .int .i64 x.q] 34)))
          have BL := Hid.mk (thenB B (belowA w41 (.cells #[.int .i64 x.s.a, .int .i64 x.s.b, .int .i64 x.s.c, .int .i64 x.s.d, .int .i64 x.s.e, .int .i64 x.s.f, .int .i64 x.s.g, .int .i64 x.s.h, .int .i64 x.s.r, .int .i64 x.p, .int .i64 x.q] 34)))
          have TL : w11.heap.size + 1 ≤ (w41.alloc (.cells #[.int .i64 x.s.a, .int .i64 x.s.b, .int .i64 x.s.c, .int .i64 x.s.d, .int .i64 x.s.e, .int .i64 x.s.f, .int .i64 x.s.g, .int .i64 x.s.h, .int .i64 x.s.r, .int .i64 x.p, .int .i64 x.q] 34)).heap.size := by have := VSL.out.1; omega
          have OLT := Hid.mk OL.lt
          clear O VR VS RS B Bo
          go_wp2_with (at_builtin; go_loud (refine wpList_putRule _ rfl _ _ rfl (w11.heap.size + 1) c d (trL xs k) j HJ.out rfl OL _ 1 x rfl (newCells _ _ (rowRule x)) (by omega) TL ?_))
          intro c6 d6 w6 O6 hg6 hx6
          rw [← hno.out] at O6
          have VR7 := VRL.out.grownR hg6 (row_ne F3.out)
          have VS7 := VSL.out.grownR hg6 (row_ne F2.out)
          have B7 := belowG BL.out hg6 (by omega) (fun b hb => by have := (OLT.out b hb).1; omega)
          have hl6 : Hid ((trL xs (k + 1)).length = j + 1) := Hid.mk (by rw [hno.out, List.length_append, HJ.out]; rfl)
          have RS7 := rd_far RSL.out hg6 (fun b hb b' hb' e => by have h1 := (OLT.out b hb).1; have h2 := HSL.out b' hb'; omega)
          clear OL VRL VSL RSL BL OLT s_VX f_VX z_VX VX hg6 hx6 TL
          replace O6 := Hid.mk O6
          replace VR7 := Hid.mk VR7
          replace VS7 := Hid.mk VS7
          replace RS7 := Hid.mk RS7
          replace B7 := Hid.mk B7
          go_wp2
          go_roundw
          case rel => exact ⟨k + 1, d6, j + 1, c6, by omega, by go_num, rfl, hl6.out, O6.out, VR7.out, VS7.out, RS7.out, B7.out⟩
          case measure => simp [intOf]; omega
        · skip
          clear s_VR f_VR z_VR s_VS f_VS z_VS s_VX f_VX z_VX
          have hyes := Hid.mk (trL_yes hg)
          replace O := Hid.mk O
          replace VR := Hid.mk VR
          replace VS := Hid.mk VS
          replace RS := Hid.mk RS
          replace B := Hid.mk B
          clear Bo VX
          go_wp2
          go_roundw
          case rel => exact ⟨k + 1, d, j, c, by omega, by go_num, rfl, by rw [hyes.out]; exact HJ.out, by rw [hyes.out]; exact O.out, VR.out, VS.out, RS.out, B.out⟩
          case measure => simp [intOf]; omega
      · obtain rfl : k = n := by omega
        have HO := Hid.mk (O.mono (show w.heap.size ≤ _ by omega))
        have HK := Hid.mk hj
        have HC := Hid.mk (fun b hb => (O.lt b hb).1)
        clear O hj RS
        obtain ⟨s_VR, f_VR, z_VR⟩ := VR.open
        have Bo := B
        clear s_VR f_VR z_VR
        have VF := Hid.mk (VR.filled [.int .i64 0, .slice c j d] rfl)
        have BR := belowCells B (show w.heap.size ≤ w.heap.size by (first | omega | (simp; done) | (simp; omega))) 0 [.int .i64 0, .slice c j d]
        have HT := Hid.mk VR.there
        replace BR := Hid.mk BR
        obtain ⟨s_VR, f_VR, z_VR⟩ := VR.open
        go_wp2_with (refine wpList_store_mid rfl 45 _ _ rfl (w.heap.size) 0 #[.int .i64 0, .slice c j d] rfl rfl HT.out (by kernel_rfl) (by kernel_rfl) ?_)
        refine bodyPost_ret (v := .agg #[.int .i64 0, .slice c j d]) (results_row Tryd.results20 _ _ (w.heap.size) [.int .i64 0, .slice c j d] _ rfl VF.out Tryd.underlying45 rfl (by kernel_rfl)) rfl ⟨c, d, j, rfl, HK.out, HO.out.apart (by intro b hb; have := HC.out b hb; omega) _ _, BR.out⟩
end Go.Proofs.YtngkahchhioncaaDoor
