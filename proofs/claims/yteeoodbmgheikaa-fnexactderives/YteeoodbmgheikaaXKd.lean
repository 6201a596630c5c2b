/- The law on 'Derives': its walk. -/
import Derived.Test.YteeoodbmgheikaaKF
import Derived.Test.YteeoodbmgheikaaTermH
import Derived.Test.YteeoodbmgheikaaIntT
import Derived.Test.YteeoodbmgheikaaIntH
namespace Go.Proofs.Yteeoodbmgheikaa
open Go.RowKit


set_option maxRecDepth 20000 in
set_option maxHeartbeats 8000000 in
theorem xKd_walk (aa : Option Addr) (na ca : Nat) (xsa : List T4) (ab : Option Addr) (nb cb : Nat) (zsb : List Int) (q : Int) (w : World) (hRa : RdTerm w aa xsa) (hna : xsa.length = na) (hxa : na ≤ maxLen) (hRb : Rd .i64 w ab zsb) (hnb : zsb.length = nb) (hxb : nb ≤ maxLen) (hok : ∀ t ∈ xsa, okT t) :
    Calls Try.prog 8 #[.slice aa na ca, .slice ab nb cb, .int .i64 q] w fun e w' => e = .returned (.bool true) ∧ Below w.heap.size w w' := by
  by_cases hLb : (nb : Int) ≤ 1048576
  · skip
    by_cases hba : (na : Int) ≤ 1048576
    · skip
      have h0a : (0 : Int) ≤ (1048576 - (na : Int)) := by omega
      have CTa := Hid.mk (fun w h => toTermS_ok aa na ca xsa w h hna (by omega))
      have CEa := Hid.mk (fun c c' d d' w h h' => eqTermS_ok c c' na d d' xsa w h h' hna hxa)
      have CTb := Hid.mk (fun w h => toInt64S_ok ab nb cb zsb w h hnb (by omega))
      have CEb := Hid.mk (fun c c' d d' w h h' => eqInt64S_ok c c' nb d d' zsb w h h' hnb hxb)
      have CS := Hid.mk (fun c w h c2 h2 hc => specDerives_ok c na na xsa c2 nb nb zsb q w h hna (by unfold maxLen; omega) (Nat.le_refl _) h2 hnb (by unfold maxLen; omega) hc)
      have CI := Hid.mk (fun c w h c2 h2 => implDerives_ok c na na xsa c2 nb nb zsb q w h hna (by unfold maxLen; omega) hok h2 hnb (by unfold maxLen; omega))
      generalize dvB xsa zsb q = kc at *
      have hL2b : ¬ ((1048576 : Int) < (nb : Int)) := by omega
      have hL3b : decide ((1048576 : Int) < (nb : Int)) = false := by simp; omega
      have HBa := Hid.mk hba
      clear hba hna hnb hLb
      go_enter Try.func8, Try.ntmps8
      have B := Below.refl w.heap.size w
      go_wp2_with fail
      refine (szTermS_in aa na ca 1048576 _ HBa.out (by omega)).mono ?_
      rintro e w ⟨rfl, rfl⟩
      go_wp2_with fail
      refine (CTa.out _ hRa).mono ?_
      rintro e w1 ⟨rfl, pa, b1⟩
      have S1 := b1.size
      replace hRa := hRa.kept b1
      replace hRb := hRb.kept b1
      replace B := thenB B b1
      clear b1
      have Bo := B
      have L_pa : ∀ b : Addr, (some ⟨w.heap.size, 0, none⟩) = some b → w.heap.size ≤ b.block ∧ b.block < w1.heap.size := fun b hb => by have h := pa.lt b hb; (try simp only [World.size_alloc] at h); omega
      go_wp2_with fail
      refine (CTb.out _ hRb).mono ?_
      rintro e w2 ⟨rfl, pb, b2⟩
      have S2 := b2.size
      replace hRa := hRa.kept b2
      replace hRb := hRb.kept b2
      replace pa := pa.kept b2
      replace B := thenB B b2
      clear b2
      have Bo := B
      have L_pb : ∀ b : Addr, (some ⟨w1.heap.size, 0, none⟩) = some b → w1.heap.size ≤ b.block ∧ b.block < w2.heap.size := fun b hb => by have h := pb.lt b hb; (try simp only [World.size_alloc] at h); omega
      go_wp2_with fail
      refine (CS.out _ _ pa.rd _ pb.rd (fun h => by cases h)).mono ?_
      rintro e w3 ⟨rfl, b3⟩
      have S3 := b3.size
      replace hRa := hRa.kept b3
      replace hRb := hRb.kept b3
      replace pa := pa.kept b3
      replace pb := pb.kept b3
      replace B := thenB B b3
      clear b3
      have Bo := B
      clear L_pa L_pb
      clear pa pb
      go_wp2_with fail
      refine (CTa.out _ hRa).mono ?_
      rintro e w4 ⟨rfl, qa, b4⟩
      have S4 := b4.size
      replace hRa := hRa.kept b4
      replace hRb := hRb.kept b4
      replace B := thenB B b4
      clear b4
      have Bo := B
      have L_qa : ∀ b : Addr, (some ⟨w3.heap.size, 0, none⟩) = some b → w3.heap.size ≤ b.block ∧ b.block < w4.heap.size := fun b hb => by have h := qa.lt b hb; (try simp only [World.size_alloc] at h); omega
      go_wp2_with fail
      refine (CTb.out _ hRb).mono ?_
      rintro e w5 ⟨rfl, qb, b5⟩
      have S5 := b5.size
      replace hRa := hRa.kept b5
      replace hRb := hRb.kept b5
      replace qa := qa.kept b5
      replace B := thenB B b5
      clear b5
      have Bo := B
      have L_qb : ∀ b : Addr, (some ⟨w4.heap.size, 0, none⟩) = some b → w4.heap.size ≤ b.block ∧ b.block < w5.heap.size := fun b hb => by have h := qb.lt b hb; (try simp only [World.size_alloc] at h); omega
      go_wp2_with fail
      refine (CI.out _ _ qa.rd _ qb.rd).mono ?_
      rintro e w6 ⟨rfl, b6⟩
      have S6 := b6.size
      replace hRa := hRa.kept b6
      replace hRb := hRb.kept b6
      replace qa := qa.kept b6
      replace qb := qb.kept b6
      replace B := thenB B b6
      clear b6
      have Bo := B
      go_wp2_with fail
      refine (CTa.out _ hRa).mono ?_
      rintro e w7 ⟨rfl, ra, b7⟩
      have S7 := b7.size
      replace hRa := hRa.kept b7
      replace hRb := hRb.kept b7
      replace qa := qa.kept b7
      replace qb := qb.kept b7
      replace B := thenB B b7
      clear b7
      have Bo := B
      have L_ra : ∀ b : Addr, (some ⟨w6.heap.size, 0, none⟩) = some b → w6.heap.size ≤ b.block ∧ b.block < w7.heap.size := fun b hb => by have h := ra.lt b hb; (try simp only [World.size_alloc] at h); omega
      go_wp2_with fail
      refine (CEa.out _ _ _ _ _ qa.rd ra.rd).mono ?_
      rintro e w8 ⟨rfl, b8⟩
      have S8 := b8.size
      replace hRa := hRa.kept b8
      replace hRb := hRb.kept b8
      replace qa := qa.kept b8
      replace qb := qb.kept b8
      replace ra := ra.kept b8
      replace B := thenB B b8
      clear b8
      have Bo := B
      clear L_ra
      clear ra
      go_wp2_with fail
      refine (CTb.out _ hRb).mono ?_
      rintro e w9 ⟨rfl, rb, b9⟩
      have S9 := b9.size
      replace hRa := hRa.kept b9
      replace hRb := hRb.kept b9
      replace qa := qa.kept b9
      replace qb := qb.kept b9
      replace B := thenB B b9
      clear b9
      have Bo := B
      have L_rb : ∀ b : Addr, (some ⟨w8.heap.size, 0, none⟩) = some b → w8.heap.size ≤ b.block ∧ b.block < w9.heap.size := fun b hb => by have h := rb.lt b hb; (try simp only [World.size_alloc] at h); omega
      go_wp2_with fail
      refine (CEb.out _ _ _ _ _ qb.rd rb.rd).mono ?_
      rintro e w10 ⟨rfl, b10⟩
      have S10 := b10.size
      replace hRa := hRa.kept b10
      replace hRb := hRb.kept b10
      replace qa := qa.kept b10
      replace qb := qb.kept b10
      replace rb := rb.kept b10
      replace B := thenB B b10
      clear b10
      have Bo := B
      clear L_rb
      clear rb
      go_wp2
      go_ret
      exact ⟨rfl, Bo⟩
    · have hlt : 1048576 < (na : Int) := by omega
      have hL3b : decide ((1048576 : Int) < (nb : Int)) = false := by simp; omega
      unfold maxLen at hxb
      go_enter Try.func8, Try.ntmps8
      go_wp2_with fail
      refine (szTermS_out aa na ca 1048576 _ hlt (by omega) (by omega) hxa).mono ?_
      rintro e wq ⟨rfl, rfl⟩
      go_wp2
      go_ret
      exact ⟨rfl, Below.refl _ _⟩
  · have hlt : decide ((1048576 : Int) < (nb : Int)) = true := by simp; omega
    unfold maxLen at hxb
    go_enter Try.func8, Try.ntmps8
    go_wp2
    go_ret
    exact ⟨rfl, Below.refl _ _⟩

end Go.Proofs.Yteeoodbmgheikaa
