/- SameTerms: the model. -/
import Derived.Test.YtedippfnlaiapaaMvJ
import Derived.Test.YtedippfnlaiapaaMvE
namespace Go.Proofs.Ytedippfnlaiapaa
open Go.RowKit

set_option maxRecDepth 20000 in
set_option maxHeartbeats 4000000 in
theorem specSameTerms_ok (a : Option Addr) (n ca : Nat) (fa : List T4) (x : Int) (b : Option Addr) (nb cb : Nat) (fb : List T4) (y : Int) (w : World) (ha : RdTerm w a fa) (hn : fa.length = n) (hx : n ≤ maxLen) (hca : n ≤ ca) (hb : RdTerm w b fb) (hnb : fb.length = nb) (hxb : nb ≤ maxLen) (hcb : nb ≤ cb) :
    Calls Try.prog 46 #[.slice a n ca, .int .i64 x, .slice b nb cb, .int .i64 y] w fun e w' => e = .returned (.bool (smT fa x fb y)) ∧ Below w.heap.size w w' := by
  have CA := Hid.mk (fun w h => l5Asked_ok a n ca fa x w h hn hx hca)
  have CB := Hid.mk (fun w h => l5Asked_ok b nb cb fb y w h hnb hxb hcb)
  rcases smT_ways fa x fb y with ⟨h1, hr⟩ | ⟨h1, h2, hr⟩ | ⟨h1, h2, hr⟩
  · rw [hr]
    have h3 : (akC fa x != 0) = true := by simp [h1]
    clear hr h1
    generalize akC fa x = kk at *
    go_enter Try.func46, Try.ntmps46
    have B := Below.refl w.heap.size w
    have Bo := B
    go_wp2_with fail
    refine (CA.out _ ha).mono ?_
    rintro e w1 ⟨rfl, b1⟩
    have S1 := b1.size
    replace ha := ha.kept b1
    replace hb := hb.kept b1
    replace B := thenB B b1
    clear b1
    have Bo := B
    go_wp2
    go_ret
    exact ⟨rfl, Bo⟩
  · rw [hr]
    have h3 : (akC fb y != 0) = true := by simp [h2]
    rw [h1] at CA
    clear hr h1 h2
    generalize akC fb y = kk at *
    go_enter Try.func46, Try.ntmps46
    have B := Below.refl w.heap.size w
    have Bo := B
    go_wp2_with fail
    refine (CA.out _ ha).mono ?_
    rintro e w11 ⟨rfl, b11⟩
    have S11 := b11.size
    replace ha := ha.kept b11
    replace hb := hb.kept b11
    replace B := thenB B b11
    clear b11
    have Bo := B
    go_wp2_with fail
    refine (CB.out _ hb).mono ?_
    rintro e w12 ⟨rfl, b12⟩
    have S12 := b12.size
    replace ha := ha.kept b12
    replace hb := hb.kept b12
    replace B := thenB B b12
    clear b12
    have Bo := B
    go_wp2
    go_ret
    exact ⟨rfl, Bo⟩
  · rw [hr]
    rw [h1] at CA
    rw [h2] at CB
    obtain ⟨hv, hq0, hq1⟩ := ak_zero h1
    obtain ⟨hv2, hq2, hq3⟩ := ak_zero h2
    obtain ⟨m, rfl⟩ : ∃ m : Nat, x = (m : Int) := ⟨x.toNat, by omega⟩
    obtain ⟨k, rfl⟩ : ∃ m : Nat, y = (m : Int) := ⟨y.toNat, by omega⟩
    rw [Int.toNat_natCast, Int.toNat_natCast]
    have HLA := Hid.mk (ha.low (by omega))
    have HLB := Hid.mk (hb.low (by omega))
    obtain ⟨M1, hM1⟩ : ∃ M, mvR fa (prL fa m) (fun _ => 0) [] = M := ⟨_, rfl⟩
    obtain ⟨M2, hM2⟩ : ∃ M, mvR fb (prL fb k) (fun _ => 0) M1.tb = M := ⟨_, rfl⟩
    have hsame := mv_same hv (show m < fa.length by omega) hv2 (show k < fb.length by omega) hM1 hM2
    obtain ⟨hc1, _, hl1, _⟩ := mv_first hv (show m < fa.length by omega) hM1
    have C1 := Hid.mk (fun w ha hl => l5Move_ok a n ca fa m none 0 0 [] w ha hn hv (by omega) hl (.inl rfl) rfl (Nat.zero_le _) (fun _ => rfl) M1 hM1)
    have C2 := Hid.mk (fun c d w hb hl hc hcn => l5Move_ok b nb cb fb k c M1.tb.length d M1.tb w hb hnb hv2 (by omega) hl hc rfl hl1 hcn M2 hM2)
    unfold MoveAt at C1 C2
    rw [if_pos hc1, if_pos hc1, hc1] at C1
    obtain ⟨l1, hl1e⟩ : ∃ l, M1.tb.length = l := ⟨_, rfl⟩
    rw [hl1e] at C1 C2 hsame
    obtain ⟨k1, hk1⟩ : ∃ k, M1.pl m = k := ⟨_, rfl⟩
    rw [hk1] at C1 hsame
    generalize M1.tb = ls1 at *
    clear hr h1 h2 hq0 hq1 hq2 hq3 hv hv2 hM1 hM2 hc1 hk1
    by_cases hc : M2.c = 0
    · have hs2 : decide (den fa m = den fb k) = ((M2.pl k == k1) && (M2.tb.length == l1)) := by
        rw [Bool.eq_iff_iff]
        simp only [decide_eq_true_eq, Bool.and_eq_true, beq_iff_eq]
        exact ⟨fun e => (hsame.2 e).2, fun e => hsame.1 ⟨hc, e⟩⟩
      rw [hs2]
      rw [if_pos hc, if_pos hc, hc] at C2
      generalize M2.pl k = k2 at *
      generalize M2.tb = ls2 at *
      obtain ⟨l2, hl2⟩ : ∃ l, ls2.length = l := ⟨_, rfl⟩
      rw [hl2] at C2 ⊢
      have hll : ((l2 : Int) == (l1 : Int)) = (l2 == l1) := by rw [Bool.eq_iff_iff]; simp only [beq_iff_eq]; omega
      clear hsame hs2 hc hl2
      cases hkk : (k2 == k1)
      · skip
        go_enter Try.func46, Try.ntmps46
        have B := Below.refl w.heap.size w
        have Bo := B
        go_wp2_with fail
        refine (CA.out _ ha).mono ?_
        rintro e w41 ⟨rfl, b41⟩
        have S41 := b41.size
        replace ha := ha.kept b41
        replace hb := hb.kept b41
        replace B := thenB B b41
        clear b41
        have Bo := B
        go_wp2_with fail
        refine (CB.out _ hb).mono ?_
        rintro e w42 ⟨rfl, b42⟩
        have S42 := b42.size
        replace ha := ha.kept b42
        replace hb := hb.kept b42
        replace B := thenB B b42
        clear b42
        have Bo := B
        go_wp2_with fail
        refine (C1.out _ ha (Hid.mk (fun ad had => by have := HLA.out ad had; have := B.size; omega))).mono ?_
        rintro e w43 ⟨c4, d4, rfl, O4, b43⟩
        have S43 := b43.size
        replace ha := ha.kept b43
        replace hb := hb.kept b43
        replace B := thenB B b43
        clear b43
        have Bo := B
        have hnc := Hid.mk (ownTerm_nocap O4)
        replace ha := ha.kept (belowA w43 (.cells #[.int .i64 0, .int .i64 k1, .slice c4 l1 d4] 30))
        replace hb := hb.kept (belowA w43 (.cells #[.int .i64 0, .int .i64 k1, .slice c4 l1 d4] 30))
        replace O4 := O4.kept (belowA w43 (.cells #[.int .i64 0, .int .i64 k1, .slice c4 l1 d4] 30))
        replace B := thenB B (belowA w43 (.cells #[.int .i64 0, .int .i64 k1, .slice c4 l1 d4] 30))
        have VA := V.new w43 [.int .i64 0, .int .i64 k1, .slice c4 l1 d4] 30
        obtain ⟨s_VA, f_VA, z_VA⟩ := VA.open
        have Bo := B
        go_wp2_with fail
        refine (C2.out _ _ _ hb (Hid.mk (fun ad had => by have := HLB.out ad had; have := B.size; omega)) O4.rd hnc.out).mono ?_
        rintro e w44 ⟨c5, d5, rfl, O5, b44⟩
        clear s_VA f_VA z_VA
        have S44 := b44.size
        simp only [World.size_alloc] at S44
        replace VA := VA.kept b44
        replace ha := ha.kept b44
        replace hb := hb.kept b44
        replace O4 := O4.kept b44
        replace B := thenB B b44
        clear b44
        obtain ⟨s_VA, f_VA, z_VA⟩ := VA.open
        have Bo := B
        replace VA := VA.kept (belowA w44 (.cells #[.int .i64 0, .int .i64 k2, .slice c5 l2 d5] 30))
        replace ha := ha.kept (belowA w44 (.cells #[.int .i64 0, .int .i64 k2, .slice c5 l2 d5] 30))
        replace hb := hb.kept (belowA w44 (.cells #[.int .i64 0, .int .i64 k2, .slice c5 l2 d5] 30))
        replace O4 := O4.kept (belowA w44 (.cells #[.int .i64 0, .int .i64 k2, .slice c5 l2 d5] 30))
        replace O5 := O5.kept (belowA w44 (.cells #[.int .i64 0, .int .i64 k2, .slice c5 l2 d5] 30))
        replace B := thenB B (belowA w44 (.cells #[.int .i64 0, .int .i64 k2, .slice c5 l2 d5] 30))
        have VB := V.new w44 [.int .i64 0, .int .i64 k2, .slice c5 l2 d5] 30
        clear s_VA f_VA z_VA
        obtain ⟨s_VA, f_VA, z_VA⟩ := VA.open
        obtain ⟨s_VB, f_VB, z_VB⟩ := VB.open
        have Bo := B
        go_wp2
        go_ret
        exact ⟨rfl, Bo⟩
      · skip
        go_enter Try.func46, Try.ntmps46
        have B := Below.refl w.heap.size w
        have Bo := B
        go_wp2_with fail
        refine (CA.out _ ha).mono ?_
        rintro e w61 ⟨rfl, b61⟩
        have S61 := b61.size
        replace ha := ha.kept b61
        replace hb := hb.kept b61
        replace B := thenB B b61
        clear b61
        have Bo := B
        go_wp2_with fail
        refine (CB.out _ hb).mono ?_
        rintro e w62 ⟨rfl, b62⟩
        have S62 := b62.size
        replace ha := ha.kept b62
        replace hb := hb.kept b62
        replace B := thenB B b62
        clear b62
        have Bo := B
        go_wp2_with fail
        refine (C1.out _ ha (Hid.mk (fun ad had => by have := HLA.out ad had; have := B.size; omega))).mono ?_
        rintro e w63 ⟨c4, d4, rfl, O4, b63⟩
        have S63 := b63.size
        replace ha := ha.kept b63
        replace hb := hb.kept b63
        replace B := thenB B b63
        clear b63
        have Bo := B
        have hnc := Hid.mk (ownTerm_nocap O4)
        replace ha := ha.kept (belowA w63 (.cells #[.int .i64 0, .int .i64 k1, .slice c4 l1 d4] 30))
        replace hb := hb.kept (belowA w63 (.cells #[.int .i64 0, .int .i64 k1, .slice c4 l1 d4] 30))
        replace O4 := O4.kept (belowA w63 (.cells #[.int .i64 0, .int .i64 k1, .slice c4 l1 d4] 30))
        replace B := thenB B (belowA w63 (.cells #[.int .i64 0, .int .i64 k1, .slice c4 l1 d4] 30))
        have VA := V.new w63 [.int .i64 0, .int .i64 k1, .slice c4 l1 d4] 30
        obtain ⟨s_VA, f_VA, z_VA⟩ := VA.open
        have Bo := B
        go_wp2_with fail
        refine (C2.out _ _ _ hb (Hid.mk (fun ad had => by have := HLB.out ad had; have := B.size; omega)) O4.rd hnc.out).mono ?_
        rintro e w64 ⟨c5, d5, rfl, O5, b64⟩
        clear s_VA f_VA z_VA
        have S64 := b64.size
        simp only [World.size_alloc] at S64
        replace VA := VA.kept b64
        replace ha := ha.kept b64
        replace hb := hb.kept b64
        replace O4 := O4.kept b64
        replace B := thenB B b64
        clear b64
        obtain ⟨s_VA, f_VA, z_VA⟩ := VA.open
        have Bo := B
        replace VA := VA.kept (belowA w64 (.cells #[.int .i64 0, .int .i64 k2, .slice c5 l2 d5] 30))
        replace ha := ha.kept (belowA w64 (.cells #[.int .i64 0, .int .i64 k2, .slice c5 l2 d5] 30))
        replace hb := hb.kept (belowA w64 (.cells #[.int .i64 0, .int .i64 k2, .slice c5 l2 d5] 30))
        replace O4 := O4.kept (belowA w64 (.cells #[.int .i64 0, .int .i64 k2, .slice c5 l2 d5] 30))
        replace O5 := O5.kept (belowA w64 (.cells #[.int .i64 0, .int .i64 k2, .slice c5 l2 d5] 30))
        replace B := thenB B (belowA w64 (.cells #[.int .i64 0, .int .i64 k2, .slice c5 l2 d5] 30))
        have VB := V.new w64 [.int .i64 0, .int .i64 k2, .slice c5 l2 d5] 30
        clear s_VA f_VA z_VA
        obtain ⟨s_VA, f_VA, z_VA⟩ := VA.open
        obtain ⟨s_VB, f_VB, z_VB⟩ := VB.open
        have Bo := B
        go_wp2
        go_ret
        exact ⟨rfl, Bo⟩
    · have hs2 : decide (den fa m = den fb k) = false := by
        rw [decide_eq_false_iff_not]
        exact fun e => hc (hsame.2 e).1
      rw [hs2]
      have hcc : (M2.c == 0) = false := by simp [hc]
      rw [if_neg hc, if_neg hc] at C2
      obtain ⟨k2, hk2⟩ : ∃ k : Int, k = 0 := ⟨0, rfl⟩
      obtain ⟨l2, hl2⟩ : ∃ k : Nat, k = ([] : List T4).length := ⟨_, rfl⟩
      rw [← hk2, ← hl2] at C2
      generalize M2.c = kc at *
      clear hsame hs2 hc hk2 hl2
      go_enter Try.func46, Try.ntmps46
      have B := Below.refl w.heap.size w
      have Bo := B
      go_wp2_with fail
      refine (CA.out _ ha).mono ?_
      rintro e w81 ⟨rfl, b81⟩
      have S81 := b81.size
      replace ha := ha.kept b81
      replace hb := hb.kept b81
      replace B := thenB B b81
      clear b81
      have Bo := B
      go_wp2_with fail
      refine (CB.out _ hb).mono ?_
      rintro e w82 ⟨rfl, b82⟩
      have S82 := b82.size
      replace ha := ha.kept b82
      replace hb := hb.kept b82
      replace B := thenB B b82
      clear b82
      have Bo := B
      go_wp2_with fail
      refine (C1.out _ ha (Hid.mk (fun ad had => by have := HLA.out ad had; have := B.size; omega))).mono ?_
      rintro e w83 ⟨c4, d4, rfl, O4, b83⟩
      have S83 := b83.size
      replace ha := ha.kept b83
      replace hb := hb.kept b83
      replace B := thenB B b83
      clear b83
      have Bo := B
      have hnc := Hid.mk (ownTerm_nocap O4)
      replace ha := ha.kept (belowA w83 (.cells #[.int .i64 0, .int .i64 k1, .slice c4 l1 d4] 30))
      replace hb := hb.kept (belowA w83 (.cells #[.int .i64 0, .int .i64 k1, .slice c4 l1 d4] 30))
      replace O4 := O4.kept (belowA w83 (.cells #[.int .i64 0, .int .i64 k1, .slice c4 l1 d4] 30))
      replace B := thenB B (belowA w83 (.cells #[.int .i64 0, .int .i64 k1, .slice c4 l1 d4] 30))
      have VA := V.new w83 [.int .i64 0, .int .i64 k1, .slice c4 l1 d4] 30
      obtain ⟨s_VA, f_VA, z_VA⟩ := VA.open
      have Bo := B
      go_wp2_with fail
      refine (C2.out _ _ _ hb (Hid.mk (fun ad had => by have := HLB.out ad had; have := B.size; omega)) O4.rd hnc.out).mono ?_
      rintro e w84 ⟨c5, d5, rfl, O5, b84⟩
      clear s_VA f_VA z_VA
      have S84 := b84.size
      simp only [World.size_alloc] at S84
      replace VA := VA.kept b84
      replace ha := ha.kept b84
      replace hb := hb.kept b84
      replace O4 := O4.kept b84
      replace B := thenB B b84
      clear b84
      obtain ⟨s_VA, f_VA, z_VA⟩ := VA.open
      have Bo := B
      replace VA := VA.kept (belowA w84 (.cells #[.int .i64 kc, .int .i64 k2, .slice c5 l2 d5] 30))
      replace ha := ha.kept (belowA w84 (.cells #[.int .i64 kc, .int .i64 k2, .slice c5 l2 d5] 30))
      replace hb := hb.kept (belowA w84 (.cells #[.int .i64 kc, .int .i64 k2, .slice c5 l2 d5] 30))
      replace O4 := O4.kept (belowA w84 (.cells #[.int .i64 kc, .int .i64 k2, .slice c5 l2 d5] 30))
      replace O5 := O5.kept (belowA w84 (.cells #[.int .i64 kc, .int .i64 k2, .slice c5 l2 d5] 30))
      replace B := thenB B (belowA w84 (.cells #[.int .i64 kc, .int .i64 k2, .slice c5 l2 d5] 30))
      have VB := V.new w84 [.int .i64 kc, .int .i64 k2, .slice c5 l2 d5] 30
      clear s_VA f_VA z_VA
      obtain ⟨s_VA, f_VA, z_VA⟩ := VA.open
      obtain ⟨s_VB, f_VB, z_VB⟩ := VB.open
      have Bo := B
      go_wp2
      go_ret
      exact ⟨rfl, Bo⟩

end Go.Proofs.Ytedippfnlaiapaa
