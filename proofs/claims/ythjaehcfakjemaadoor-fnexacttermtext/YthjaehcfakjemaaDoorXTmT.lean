/- The law on 'TermText': its walk. -/
import Derived.Test.YthjaehcfakjemaaDoorTxF
import Derived.Test.YthjaehcfakjemaaDoorTermH
namespace Go.Proofs.YthjaehcfakjemaaDoor
open Go.RowKit

theorem eqTextResult_ok (k : Int) (s : ByteArray) (w : World) :
    Calls Tryd.prog 17 #[.agg #[.int .i64 k, .string s], .agg #[.int .i64 k, .string s]] w fun e w' => e = .returned (.bool true) ∧ Below w.heap.size w w' := by
  go_enter Tryd.func17, Tryd.ntmps17
  have B := Below.refl w.heap.size w
  replace B := thenB B (belowA w (.cells #[.int .i64 k, .string s] 33))
  have VX := V.new w [.int .i64 k, .string s] 33
  replace VX := VX.kept (belowA (w.alloc (.cells #[.int .i64 k, .string s] 33)) (.cells #[.int .i64 k, .string s] 33))
  replace B := thenB B (belowA (w.alloc (.cells #[.int .i64 k, .string s] 33)) (.cells #[.int .i64 k, .string s] 33))
  have VY : V ((w.alloc (.cells #[.int .i64 k, .string s] 33)).alloc (.cells #[.int .i64 k, .string s] 33)) (w.heap.size + 1) [.int .i64 k, .string s] := V.newAt _ _ _ _ (by simp)
  obtain ⟨s_VX, f_VX, z_VX⟩ := VX.open
  obtain ⟨s_VY, f_VY, z_VY⟩ := VY.open
  have Bo := B
  go_wp2
  go_ret
  exact ⟨rfl, Bo⟩

set_option maxRecDepth 20000 in
set_option maxHeartbeats 8000000 in
theorem xTmT_walk (aa : Option Addr) (na ca : Nat) (xsa : List T4) (q : Int) (w : World) (hRa : RdTerm w aa xsa) (hna : xsa.length = na) (hxa : na ≤ maxLen) (hok : ∀ t ∈ xsa, okT t) (htab : Lib.TabIs Tryd.prog w (Rows.fnExactTermTextRow.laid.getD 2 ("", .nil)).1 .u64 Lib.pow10Tab) :
    Calls Tryd.prog 4 #[.slice aa na ca, .int .i64 q] w fun e w' => e = .returned (.bool true) ∧ Below w.heap.size w w' := by
  by_cases hba : (na : Int) ≤ 1048576
  · skip
    have h0a : (0 : Int) ≤ (1048576 - (na : Int)) := by omega
    have CTa := Hid.mk (fun w h => toTermS_ok aa na ca xsa w h hna (by omega))
    have CEa := Hid.mk (fun c c' d d' w h h' => eqTermS_ok c c' na d d' xsa w h h' hna hxa)
    have hT := Hid.mk (Lib.tabBelow_of_tabIs htab)
    clear htab
    have CS := Hid.mk (fun c w h => specTermText_ok c na na xsa q w h hna hxa (Nat.le_refl _))
    have CI := Hid.mk (fun c d w h hd t => implTermText_ok c na d xsa q w h hna hxa hd hok t)
    generalize ttC xsa q = kk at *
    generalize ttT xsa q = zs at *
    have HBa := Hid.mk hba
    clear hba hna
    go_enter Tryd.func4, Tryd.ntmps4
    have B := Below.refl w.heap.size w
    go_wp2_with fail
    refine (szTermS_in aa na ca 1048576 _ HBa.out (by omega)).mono ?_
    rintro e w ⟨rfl, rfl⟩
    go_wp2_with fail
    refine (CTa.out _ hRa).mono ?_
    rintro e w1 ⟨rfl, pa, b1⟩
    have S1 := b1.size
    replace hRa := hRa.kept b1
    replace B := thenB B b1
    clear b1
    have Bo := B
    have L_pa : ∀ b : Addr, (some ⟨w.heap.size, 0, none⟩) = some b → w.heap.size ≤ b.block ∧ b.block < w1.heap.size := fun b hb => by have h := pa.lt b hb; (try simp only [World.size_alloc] at h); omega
    go_wp2_with fail
    refine (CS.out _ _ pa.rd).mono ?_
    rintro e w2 ⟨rfl, b2⟩
    have S2 := b2.size
    replace hRa := hRa.kept b2
    replace pa := pa.kept b2
    replace B := thenB B b2
    clear b2
    have Bo := B
    clear L_pa
    clear pa
    replace hRa := hRa.kept (belowA w2 (.cells #[.int .i64 kk, .string zs] 33))
    replace B := thenB B (belowA w2 (.cells #[.int .i64 kk, .string zs] 33))
    have VW := V.new w2 [.int .i64 kk, .string zs] 33
    obtain ⟨s_VW, f_VW, z_VW⟩ := VW.open
    have Bo := B
    go_wp2_with fail
    refine (CTa.out _ hRa).mono ?_
    rintro e w3 ⟨rfl, qa, b3⟩
    clear s_VW f_VW z_VW
    have S3 := b3.size
    simp only [World.size_alloc] at S3
    replace VW := VW.kept b3
    replace hRa := hRa.kept b3
    replace B := thenB B b3
    clear b3
    obtain ⟨s_VW, f_VW, z_VW⟩ := VW.open
    have Bo := B
    simp only [World.size_alloc] at qa
    have L_qa : ∀ b : Addr, (some ⟨w2.heap.size + 1, 0, none⟩) = some b → w2.heap.size + 1 ≤ b.block ∧ b.block < w3.heap.size := fun b hb => by have h := qa.lt b hb; (try simp only [World.size_alloc] at h); omega
    go_wp2_with fail
    refine (CI.out _ _ _ qa.rd (Nat.le_refl _) (hT.out _ B)).mono ?_
    rintro e w4 ⟨rfl, b4⟩
    clear s_VW f_VW z_VW
    have S4 := b4.size
    replace VW := VW.kept b4
    replace hRa := hRa.kept b4
    replace qa := qa.kept b4
    replace B := thenB B b4
    clear b4
    obtain ⟨s_VW, f_VW, z_VW⟩ := VW.open
    have Bo := B
    replace VW := VW.kept (belowA w4 (.cells #[.int .i64 kk, .string zs] 33))
    replace hRa := hRa.kept (belowA w4 (.cells #[.int .i64 kk, .string zs] 33))
    replace qa := qa.kept (belowA w4 (.cells #[.int .i64 kk, .string zs] 33))
    replace B := thenB B (belowA w4 (.cells #[.int .i64 kk, .string zs] 33))
    have VG := V.new w4 [.int .i64 kk, .string zs] 33
    clear s_VW f_VW z_VW
    obtain ⟨s_VW, f_VW, z_VW⟩ := VW.open
    obtain ⟨s_VG, f_VG, z_VG⟩ := VG.open
    have Bo := B
    go_wp2_with fail
    refine (eqTextResult_ok kk zs _).mono ?_
    rintro e w5 ⟨rfl, b5⟩
    clear s_VW f_VW z_VW s_VG f_VG z_VG
    have S5 := b5.size
    simp only [World.size_alloc] at S5
    replace VW := VW.kept b5
    replace VG := VG.kept b5
    replace hRa := hRa.kept b5
    replace qa := qa.kept b5
    replace B := thenB B b5
    clear b5
    obtain ⟨s_VW, f_VW, z_VW⟩ := VW.open
    obtain ⟨s_VG, f_VG, z_VG⟩ := VG.open
    have Bo := B
    go_wp2_with fail
    refine (CTa.out _ hRa).mono ?_
    rintro e w6 ⟨rfl, ra, b6⟩
    clear s_VW f_VW z_VW s_VG f_VG z_VG
    have S6 := b6.size
    replace VW := VW.kept b6
    replace VG := VG.kept b6
    replace hRa := hRa.kept b6
    replace qa := qa.kept b6
    replace B := thenB B b6
    clear b6
    obtain ⟨s_VW, f_VW, z_VW⟩ := VW.open
    obtain ⟨s_VG, f_VG, z_VG⟩ := VG.open
    have Bo := B
    have L_ra : ∀ b : Addr, (some ⟨w5.heap.size, 0, none⟩) = some b → w5.heap.size ≤ b.block ∧ b.block < w6.heap.size := fun b hb => by have h := ra.lt b hb; (try simp only [World.size_alloc] at h); omega
    go_wp2_with fail
    refine (CEa.out _ _ _ _ _ qa.rd ra.rd).mono ?_
    rintro e w7 ⟨rfl, b7⟩
    clear s_VW f_VW z_VW s_VG f_VG z_VG
    have S7 := b7.size
    replace VW := VW.kept b7
    replace VG := VG.kept b7
    replace hRa := hRa.kept b7
    replace qa := qa.kept b7
    replace ra := ra.kept b7
    replace B := thenB B b7
    clear b7
    obtain ⟨s_VW, f_VW, z_VW⟩ := VW.open
    obtain ⟨s_VG, f_VG, z_VG⟩ := VG.open
    have Bo := B
    clear L_ra
    clear ra
    go_wp2
    go_ret
    exact ⟨rfl, Bo⟩
  · have hlt : 1048576 < (na : Int) := by omega
    go_enter Tryd.func4, Tryd.ntmps4
    go_wp2_with fail
    refine (szTermS_out aa na ca 1048576 _ hlt (by omega) (by omega) hxa).mono ?_
    rintro e wq ⟨rfl, rfl⟩
    go_wp2
    go_ret
    exact ⟨rfl, Below.refl _ _⟩

end Go.Proofs.YthjaehcfakjemaaDoor
