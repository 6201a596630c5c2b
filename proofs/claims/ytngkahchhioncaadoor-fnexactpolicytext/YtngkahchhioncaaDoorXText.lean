/- The law on 'PolicyText': its walk. -/
import Derived.Test.YtngkahchhioncaaDoorPolX
import Derived.Test.YtngkahchhioncaaDoorPolU
import Derived.Test.YtngkahchhioncaaDoorRuleH
namespace Go.Proofs.YtngkahchhioncaaDoor
open Go.RowKit

theorem eqTextResult_ok (k : Int) (s : ByteArray) (w : World) :
    Calls Tryd.prog 47 #[.agg #[.int .i64 k, .string s], .agg #[.int .i64 k, .string s]] w fun e w' => e = .returned (.bool true) ∧ Below w.heap.size w w' := by
  go_enter Tryd.func47, Tryd.ntmps47
  have B := Below.refl w.heap.size w
  replace B := thenB B (belowA w (.cells #[.int .i64 k, .string s] 76))
  have VX := V.new w [.int .i64 k, .string s] 76
  replace VX := VX.kept (belowA (w.alloc (.cells #[.int .i64 k, .string s] 76)) (.cells #[.int .i64 k, .string s] 76))
  replace B := thenB B (belowA (w.alloc (.cells #[.int .i64 k, .string s] 76)) (.cells #[.int .i64 k, .string s] 76))
  have VY : V ((w.alloc (.cells #[.int .i64 k, .string s] 76)).alloc (.cells #[.int .i64 k, .string s] 76)) (w.heap.size + 1) [.int .i64 k, .string s] := V.newAt _ _ _ _ (by simp)
  obtain ⟨s_VX, f_VX, z_VX⟩ := VX.open
  obtain ⟨s_VY, f_VY, z_VY⟩ := VY.open
  have Bo := B
  go_wp2
  go_ret
  exact ⟨rfl, Bo⟩

set_option maxRecDepth 20000 in
set_option maxHeartbeats 8000000 in
theorem xText_walk (a : Option Addr) (n ca : Nat) (xs : List R11) (w : World) (hR : RdRule w a xs) (hn : xs.length = n) (hx' : n ≤ maxLen) (htab : Lib.TabIs Tryd.prog w (Rows.fnExactPolicyTextRow.laid.getD 2 ("", .nil)).1 .u64 Lib.pow10Tab) :
    Calls Tryd.prog 11 #[.slice a n ca] w fun e w' => e = .returned (.bool true) ∧ Below w.heap.size w w' := by
  by_cases hbig : (n : Int) ≤ 1048576
  · have h0 : 0 ≤ 1048576 - (n : Int) := by omega
    have CT := Hid.mk (fun w h => toRuleS_ok a n ca xs w h hn (by omega))
    have CS := Hid.mk (fun c d w h => specPolicyText_ok c n d xs w h hn hx')
    have CI := Hid.mk (fun c d w h => fun t => implPolicyText_ok c n d xs w t h hn hx')
    have CE := Hid.mk (fun c c' d d' w h h' => eqRuleS_ok c c' n d d' xs w h h' hn hx')
    have CM := Hid.mk (fun c d base w h => markRuleS_ok c n d base xs 1 w h hn (by omega) (by omega))
    have hT := Hid.mk (Lib.tabBelow_of_tabIs htab)
    clear htab
    generalize pxB xs = zs at *
    generalize pyC xs = kk at *
    have HB1 := Hid.mk hbig
    have hmk : ¬ (1 + 11 * (n : Int)) < 0 := by omega
    clear hbig hn
    go_enter Tryd.func11, Tryd.ntmps11
    have B := Below.refl w.heap.size w
    go_wp2_with fail
    refine (szRuleS_in a n ca 1048576 _ HB1.out (by omega)).mono ?_
    rintro e wq ⟨rfl, rfl⟩
    have HR0 := Hid.mk hR
    go_wp2_with fail
    refine (CT.out _ hR).mono ?_
    rintro e w1 ⟨rfl, o1, b1⟩
    have S1 := b1.size
    replace hR := hR.kept b1
    replace B := thenB B b1
    clear b1
    have Bo := B
    have L_o1 : ∀ b : Addr, (some ⟨wq.heap.size, 0, none⟩) = some b → wq.heap.size ≤ b.block ∧ b.block < w1.heap.size := fun b hb => by have h := o1.lt b hb; (try simp only [World.size_alloc] at h); omega
    go_wp2_with fail
    refine (CS.out _ _ _ o1.rd).mono ?_
    rintro e w2 ⟨rfl, b2⟩
    have S2 := b2.size
    replace hR := hR.kept b2
    replace o1 := o1.kept b2
    replace B := thenB B b2
    clear b2
    have Bo := B
    clear L_o1
    clear o1
    replace hR := hR.kept (belowA w2 (.cells #[.int .i64 kk, .string zs] 76))
    replace B := thenB B (belowA w2 (.cells #[.int .i64 kk, .string zs] 76))
    have VW := V.new w2 [.int .i64 kk, .string zs] 76
    obtain ⟨s_VW, f_VW, z_VW⟩ := VW.open
    have Bo := B
    go_wp2_with fail
    refine (CT.out _ hR).mono ?_
    rintro e w3 ⟨rfl, o3, b3⟩
    clear s_VW f_VW z_VW
    have S3 := b3.size
    simp only [World.size_alloc] at S3
    replace VW := VW.kept b3
    replace hR := hR.kept b3
    replace B := thenB B b3
    clear b3
    obtain ⟨s_VW, f_VW, z_VW⟩ := VW.open
    have Bo := B
    simp only [World.size_alloc] at o3
    have L_o3 : ∀ b : Addr, (some ⟨w2.heap.size + 1, 0, none⟩) = some b → w2.heap.size + 1 ≤ b.block ∧ b.block < w3.heap.size := fun b hb => by have h := o3.lt b hb; (try simp only [World.size_alloc] at h); omega
    go_wp2_with fail
    refine (CI.out _ _ _ o3.rd (hT.out _ B)).mono ?_
    rintro e w4 ⟨rfl, b4⟩
    clear s_VW f_VW z_VW
    have S4 := b4.size
    replace VW := VW.kept b4
    replace hR := hR.kept b4
    replace o3 := o3.kept b4
    replace B := thenB B b4
    clear b4
    obtain ⟨s_VW, f_VW, z_VW⟩ := VW.open
    have Bo := B
    replace VW := VW.kept (belowA w4 (.cells #[.int .i64 kk, .string zs] 76))
    replace hR := hR.kept (belowA w4 (.cells #[.int .i64 kk, .string zs] 76))
    replace o3 := o3.kept (belowA w4 (.cells #[.int .i64 kk, .string zs] 76))
    replace B := thenB B (belowA w4 (.cells #[.int .i64 kk, .string zs] 76))
    have VG := V.new w4 [.int .i64 kk, .string zs] 76
    clear s_VW f_VW z_VW
    obtain ⟨s_VW, f_VW, z_VW⟩ := VW.open
    obtain ⟨s_VG, f_VG, z_VG⟩ := VG.open
    have Bo := B
    go_wp2_with fail
    refine (eqTextResult_ok kk zs _).mono ?_
    rintro e w5 ⟨rfl, b5⟩
    clear s_VW f_VW z_VW s_VG f_VG z_VG
    have S5 := b5.size
    simp only [World.size_alloc] at S5
    replace VW := VW.kept b5
    replace VG := VG.kept b5
    replace hR := hR.kept b5
    replace o3 := o3.kept b5
    replace B := thenB B b5
    clear b5
    obtain ⟨s_VW, f_VW, z_VW⟩ := VW.open
    obtain ⟨s_VG, f_VG, z_VG⟩ := VG.open
    have Bo := B
    go_wp2_with fail
    refine (CT.out _ hR).mono ?_
    rintro e w6 ⟨rfl, o5, b6⟩
    clear s_VW f_VW z_VW s_VG f_VG z_VG
    have S6 := b6.size
    replace VW := VW.kept b6
    replace VG := VG.kept b6
    replace hR := hR.kept b6
    replace o3 := o3.kept b6
    replace B := thenB B b6
    clear b6
    obtain ⟨s_VW, f_VW, z_VW⟩ := VW.open
    obtain ⟨s_VG, f_VG, z_VG⟩ := VG.open
    have Bo := B
    have L_o5 : ∀ b : Addr, (some ⟨w5.heap.size, 0, none⟩) = some b → w5.heap.size ≤ b.block ∧ b.block < w6.heap.size := fun b hb => by have h := o5.lt b hb; (try simp only [World.size_alloc] at h); omega
    go_wp2_with fail
    refine (CE.out _ _ _ _ _ o3.rd o5.rd).mono ?_
    rintro e w7 ⟨rfl, b7⟩
    clear s_VW f_VW z_VW s_VG f_VG z_VG
    have S7 := b7.size
    replace VW := VW.kept b7
    replace VG := VG.kept b7
    replace hR := hR.kept b7
    replace o3 := o3.kept b7
    replace o5 := o5.kept b7
    replace B := thenB B b7
    clear b7
    obtain ⟨s_VW, f_VW, z_VW⟩ := VW.open
    obtain ⟨s_VG, f_VG, z_VG⟩ := VG.open
    have Bo := B
    go_wp2
    go_ret
    exact ⟨rfl, Bo⟩
  · have hlt : 1048576 < (n : Int) := by omega
    go_enter Tryd.func11, Tryd.ntmps11
    go_wp2_with fail
    refine (szRuleS_out a n ca 1048576 _ hlt (by omega) (by omega) hx').mono ?_
    rintro e wq ⟨rfl, rfl⟩
    go_wp2
    go_ret
    exact ⟨rfl, Below.refl _ _⟩

end Go.Proofs.YtngkahchhioncaaDoor
