/- The law on 'ChooseSuite': its walk. -/
import Derived.Test.YthaaompkcomfcaaPsK
import Derived.Test.YthaaompkcomfcaaSuiteG
namespace Go.Proofs.Ythaaompkcomfcaa
open Go.RowKit


set_option maxRecDepth 20000 in
set_option maxHeartbeats 8000000 in
theorem xSch_walk (aa : Option Addr) (na ca : Nat) (xsa : List Su) (ab : Option Addr) (nb cb : Nat) (xsb : List Su) (w : World) (hRa : RdSuite w aa xsa) (hna : xsa.length = na) (hxa : na ≤ maxLen) (hRb : RdSuite w ab xsb) (hnb : xsb.length = nb) (hxb : nb ≤ maxLen) :
    Calls Try.prog 6 #[.slice aa na ca, .slice ab nb cb] w fun e w' => e = .returned (.bool true) ∧ Below w.heap.size w w' := by
  by_cases hba : (na : Int) ≤ 1048576
  · skip
    have h0a : (0 : Int) ≤ (1048576 - (na : Int)) := by omega
    by_cases hbb : (nb : Int) ≤ (1048576 - (na : Int))
    · skip
      have h0b : (0 : Int) ≤ ((1048576 - (na : Int)) - (nb : Int)) := by omega
      have CTa := Hid.mk (fun w h => toSuiteS_ok aa na ca xsa w h hna (by omega))
      have CEa := Hid.mk (fun c c' d d' w h h' => eqSuiteS_ok c c' na d d' xsa w h h' hna hxa)
      have CTb := Hid.mk (fun w h => toSuiteS_ok ab nb cb xsb w h hnb (by omega))
      have CEb := Hid.mk (fun c c' d d' w h h' => eqSuiteS_ok c c' nb d d' xsb w h h' hnb hxb)
      have CS := Hid.mk (fun c d w h h' => specChoose_ok c d na na nb nb xsa xsb w h h' hna hnb (Nat.le_refl _) (by unfold maxLen; omega) (Nat.le_refl _) (by unfold maxLen; omega))
      have CI := Hid.mk (fun c d w h h' => implChoose_ok c d na na nb nb xsa xsb w h h' hna hnb (Nat.le_refl _) (by unfold maxLen; omega) (Nat.le_refl _) (by unfold maxLen; omega))
      generalize csC xsa xsb = kc at *
      generalize chA xsa xsb = kv at *
      generalize chS xsa xsb = zq at *
      have HBa := Hid.mk hba
      have HBb := Hid.mk hbb
      clear hba hbb hna hnb
      go_enter Try.func6, Try.ntmps6
      have B := Below.refl w.heap.size w
      go_wp2_with fail
      refine (szSuiteS_in aa na ca 1048576 _ HBa.out (by omega)).mono ?_
      rintro e w ⟨rfl, rfl⟩
      go_wp2_with fail
      refine (szSuiteS_in ab nb cb (1048576 - (na : Int)) _ HBb.out (by omega)).mono ?_
      rintro e w ⟨rfl, rfl⟩
      go_wp2_with fail
      refine (CTa.out _ hRa).mono ?_
      rintro e w1 ⟨rfl, pa, b1⟩
      have S1 := b1.size
      replace hRa := hRa.kept b1
      replace hRb := hRb.kept b1
      replace B := thenB B b1
      clear b1
      have Bo := B
      have L_pa : ∀ b : Addr, (some ⟨w.heap.size, 0, none⟩) = some b → w.heap.size ≤ b.block ∧ b.block < w1.heap.size := fun b hb => by have h := pa.lt b hb; (try simp only [World.size_alloc] at h); omega
      go_wp2_with fail
      refine (CTb.out _ hRb).mono ?_
      rintro e w2 ⟨rfl, pb, b2⟩
      have S2 := b2.size
      replace hRa := hRa.kept b2
      replace hRb := hRb.kept b2
      replace pa := pa.kept b2
      replace B := thenB B b2
      clear b2
      have Bo := B
      have L_pb : ∀ b : Addr, (some ⟨w1.heap.size, 0, none⟩) = some b → w1.heap.size ≤ b.block ∧ b.block < w2.heap.size := fun b hb => by have h := pb.lt b hb; (try simp only [World.size_alloc] at h); omega
      go_wp2_with fail
      refine (CS.out _ _ _ pa.rd pb.rd).mono ?_
      rintro e w3 ⟨rfl, b3⟩
      have S3 := b3.size
      replace hRa := hRa.kept b3
      replace hRb := hRb.kept b3
      replace pa := pa.kept b3
      replace pb := pb.kept b3
      replace B := thenB B b3
      clear b3
      have Bo := B
      clear L_pa L_pb
      clear pa pb
      replace hRa := hRa.kept (belowA w3 (.cells #[.int .i64 kc, .int .i64 kv, .int .i64 zq.c, .int .i64 zq.b, .int .i64 zq.m, .int .i64 zq.g] 30))
      replace hRb := hRb.kept (belowA w3 (.cells #[.int .i64 kc, .int .i64 kv, .int .i64 zq.c, .int .i64 zq.b, .int .i64 zq.m, .int .i64 zq.g] 30))
      replace B := thenB B (belowA w3 (.cells #[.int .i64 kc, .int .i64 kv, .int .i64 zq.c, .int .i64 zq.b, .int .i64 zq.m, .int .i64 zq.g] 30))
      have VW := V.new w3 [.int .i64 kc, .int .i64 kv, .int .i64 zq.c, .int .i64 zq.b, .int .i64 zq.m, .int .i64 zq.g] 30
      obtain ⟨s_VW, f_VW, z_VW⟩ := VW.open
      have Bo := B
      go_wp2_with fail
      refine (CTa.out _ hRa).mono ?_
      rintro e w4 ⟨rfl, qa, b4⟩
      clear s_VW f_VW z_VW
      have S4 := b4.size
      simp only [World.size_alloc] at S4
      replace VW := VW.kept b4
      replace hRa := hRa.kept b4
      replace hRb := hRb.kept b4
      replace B := thenB B b4
      clear b4
      obtain ⟨s_VW, f_VW, z_VW⟩ := VW.open
      have Bo := B
      simp only [World.size_alloc] at qa
      have L_qa : ∀ b : Addr, (some ⟨w3.heap.size + 1, 0, none⟩) = some b → w3.heap.size + 1 ≤ b.block ∧ b.block < w4.heap.size := fun b hb => by have h := qa.lt b hb; (try simp only [World.size_alloc] at h); omega
      go_wp2_with fail
      refine (CTb.out _ hRb).mono ?_
      rintro e w5 ⟨rfl, qb, b5⟩
      clear s_VW f_VW z_VW
      have S5 := b5.size
      replace VW := VW.kept b5
      replace hRa := hRa.kept b5
      replace hRb := hRb.kept b5
      replace qa := qa.kept b5
      replace B := thenB B b5
      clear b5
      obtain ⟨s_VW, f_VW, z_VW⟩ := VW.open
      have Bo := B
      have L_qb : ∀ b : Addr, (some ⟨w4.heap.size, 0, none⟩) = some b → w4.heap.size ≤ b.block ∧ b.block < w5.heap.size := fun b hb => by have h := qb.lt b hb; (try simp only [World.size_alloc] at h); omega
      go_wp2_with fail
      refine (CI.out _ _ _ qa.rd qb.rd).mono ?_
      rintro e w6 ⟨rfl, b6⟩
      clear s_VW f_VW z_VW
      have S6 := b6.size
      replace VW := VW.kept b6
      replace hRa := hRa.kept b6
      replace hRb := hRb.kept b6
      replace qa := qa.kept b6
      replace qb := qb.kept b6
      replace B := thenB B b6
      clear b6
      obtain ⟨s_VW, f_VW, z_VW⟩ := VW.open
      have Bo := B
      replace VW := VW.kept (belowA w6 (.cells #[.int .i64 kc, .int .i64 kv, .int .i64 zq.c, .int .i64 zq.b, .int .i64 zq.m, .int .i64 zq.g] 30))
      replace hRa := hRa.kept (belowA w6 (.cells #[.int .i64 kc, .int .i64 kv, .int .i64 zq.c, .int .i64 zq.b, .int .i64 zq.m, .int .i64 zq.g] 30))
      replace hRb := hRb.kept (belowA w6 (.cells #[.int .i64 kc, .int .i64 kv, .int .i64 zq.c, .int .i64 zq.b, .int .i64 zq.m, .int .i64 zq.g] 30))
      replace qa := qa.kept (belowA w6 (.cells #[.int .i64 kc, .int .i64 kv, .int .i64 zq.c, .int .i64 zq.b, .int .i64 zq.m, .int .i64 zq.g] 30))
      replace qb := qb.kept (belowA w6 (.cells #[.int .i64 kc, .int .i64 kv, .int .i64 zq.c, .int .i64 zq.b, .int .i64 zq.m, .int .i64 zq.g] 30))
      replace B := thenB B (belowA w6 (.cells #[.int .i64 kc, .int .i64 kv, .int .i64 zq.c, .int .i64 zq.b, .int .i64 zq.m, .int .i64 zq.g] 30))
      have VG := V.new w6 [.int .i64 kc, .int .i64 kv, .int .i64 zq.c, .int .i64 zq.b, .int .i64 zq.m, .int .i64 zq.g] 30
      clear s_VW f_VW z_VW
      obtain ⟨s_VW, f_VW, z_VW⟩ := VW.open
      obtain ⟨s_VG, f_VG, z_VG⟩ := VG.open
      have Bo := B
      go_wp2_with fail
      refine (eqSuiteResult_ok kc kv zq _).mono ?_
      rintro e w7 ⟨rfl, b7⟩
      clear s_VW f_VW z_VW s_VG f_VG z_VG
      have S7 := b7.size
      simp only [World.size_alloc] at S7
      replace VW := VW.kept b7
      replace VG := VG.kept b7
      replace hRa := hRa.kept b7
      replace hRb := hRb.kept b7
      replace qa := qa.kept b7
      replace qb := qb.kept b7
      replace B := thenB B b7
      clear b7
      obtain ⟨s_VW, f_VW, z_VW⟩ := VW.open
      obtain ⟨s_VG, f_VG, z_VG⟩ := VG.open
      have Bo := B
      go_wp2_with fail
      refine (CTa.out _ hRa).mono ?_
      rintro e w8 ⟨rfl, ra, b8⟩
      clear s_VW f_VW z_VW s_VG f_VG z_VG
      have S8 := b8.size
      replace VW := VW.kept b8
      replace VG := VG.kept b8
      replace hRa := hRa.kept b8
      replace hRb := hRb.kept b8
      replace qa := qa.kept b8
      replace qb := qb.kept b8
      replace B := thenB B b8
      clear b8
      obtain ⟨s_VW, f_VW, z_VW⟩ := VW.open
      obtain ⟨s_VG, f_VG, z_VG⟩ := VG.open
      have Bo := B
      have L_ra : ∀ b : Addr, (some ⟨w7.heap.size, 0, none⟩) = some b → w7.heap.size ≤ b.block ∧ b.block < w8.heap.size := fun b hb => by have h := ra.lt b hb; (try simp only [World.size_alloc] at h); omega
      go_wp2_with fail
      refine (CEa.out _ _ _ _ _ qa.rd ra.rd).mono ?_
      rintro e w9 ⟨rfl, b9⟩
      clear s_VW f_VW z_VW s_VG f_VG z_VG
      have S9 := b9.size
      replace VW := VW.kept b9
      replace VG := VG.kept b9
      replace hRa := hRa.kept b9
      replace hRb := hRb.kept b9
      replace qa := qa.kept b9
      replace qb := qb.kept b9
      replace ra := ra.kept b9
      replace B := thenB B b9
      clear b9
      obtain ⟨s_VW, f_VW, z_VW⟩ := VW.open
      obtain ⟨s_VG, f_VG, z_VG⟩ := VG.open
      have Bo := B
      clear L_ra
      clear ra
      go_wp2_with fail
      refine (CTb.out _ hRb).mono ?_
      rintro e w10 ⟨rfl, rb, b10⟩
      clear s_VW f_VW z_VW s_VG f_VG z_VG
      have S10 := b10.size
      replace VW := VW.kept b10
      replace VG := VG.kept b10
      replace hRa := hRa.kept b10
      replace hRb := hRb.kept b10
      replace qa := qa.kept b10
      replace qb := qb.kept b10
      replace B := thenB B b10
      clear b10
      obtain ⟨s_VW, f_VW, z_VW⟩ := VW.open
      obtain ⟨s_VG, f_VG, z_VG⟩ := VG.open
      have Bo := B
      have L_rb : ∀ b : Addr, (some ⟨w9.heap.size, 0, none⟩) = some b → w9.heap.size ≤ b.block ∧ b.block < w10.heap.size := fun b hb => by have h := rb.lt b hb; (try simp only [World.size_alloc] at h); omega
      go_wp2_with fail
      refine (CEb.out _ _ _ _ _ qb.rd rb.rd).mono ?_
      rintro e w11 ⟨rfl, b11⟩
      clear s_VW f_VW z_VW s_VG f_VG z_VG
      have S11 := b11.size
      replace VW := VW.kept b11
      replace VG := VG.kept b11
      replace hRa := hRa.kept b11
      replace hRb := hRb.kept b11
      replace qa := qa.kept b11
      replace qb := qb.kept b11
      replace rb := rb.kept b11
      replace B := thenB B b11
      clear b11
      obtain ⟨s_VW, f_VW, z_VW⟩ := VW.open
      obtain ⟨s_VG, f_VG, z_VG⟩ := VG.open
      have Bo := B
      clear L_rb
      clear rb
      go_wp2
      go_ret
      exact ⟨rfl, Bo⟩
    · have hlt : (1048576 - (na : Int)) < (nb : Int) := by omega
      go_enter Try.func6, Try.ntmps6
      go_wp2_with fail
      refine (szSuiteS_in aa na ca 1048576 _ hba (by omega)).mono ?_
      rintro e wq ⟨rfl, rfl⟩
      go_wp2_with fail
      refine (szSuiteS_out ab nb cb (1048576 - (na : Int)) _ hlt (by omega) (by omega) hxb).mono ?_
      rintro e wq ⟨rfl, rfl⟩
      go_wp2
      go_ret
      exact ⟨rfl, Below.refl _ _⟩
  · have hlt : 1048576 < (na : Int) := by omega
    go_enter Try.func6, Try.ntmps6
    go_wp2_with fail
    refine (szSuiteS_out aa na ca 1048576 _ hlt (by omega) (by omega) hxa).mono ?_
    rintro e wq ⟨rfl, rfl⟩
    go_wp2
    go_ret
    exact ⟨rfl, Below.refl _ _⟩

end Go.Proofs.Ythaaompkcomfcaa
