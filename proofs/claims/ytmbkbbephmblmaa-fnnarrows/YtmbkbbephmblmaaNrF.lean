/- Lists of selectors narrowed: the model by contract. -/
import Derived.Test.YtmbkbbephmblmaaNrD
import Derived.Test.YtmbkbbephmblmaaNrE
namespace Go.Proofs.Ytmbkbbephmblmaa
open Go.RowKit

set_option maxHeartbeats 2000000 in
theorem specNarrowSels_ok (a b : Option Addr) (n m ca cb : Nat) (xs ys : List S9) (w : World) (ha : RdL w a xs) (hb : RdL w b ys) (hn : xs.length = n) (hm : ys.length = m) (hxn : n ≤ maxLen) (hxm : m ≤ maxLen) :
    Calls Try.prog 25 #[.slice a n ca, .slice b m cb] w fun e w' => ∃ (c : Option Addr) (d k : Nat), e = .returned (.agg #[.int .i64 (naC xs ys), .slice c k d]) ∧ (naL xs ys).length = k ∧ OwnL w' w.heap.size c d (naL xs ys) ∧ Below w.heap.size w w' := by
  have CA := Hid.mk (fun w h => specSelsFault_ok a n ca xs w h hn hxn)
  have CB := Hid.mk (fun w h => specSelsFault_ok b m cb ys w h hm hxm)
  have q0 := build_ss0
  have q1 := build_ss1
  have q2 := build_ss2
  have e0 := extract0
  have e1 := extract1S
  rcases na_ways xs ys with ⟨g1, r1, r2⟩ | ⟨g1, g2, r1, r2⟩ | ⟨g1, g2, r1, r2⟩
  · rw [r1, r2]
    clear r1 r2
    have t1 : (ssC xs != 0) = true := by simp [g1]
    clear g1
    go_enter Try.func25, Try.ntmps25
    have B := Below.refl w.heap.size w
    replace ha := ha.kept (belowA w (.cells #[.int .i64 0, .slice none 0 0] 50))
    replace hb := hb.kept (belowA w (.cells #[.int .i64 0, .slice none 0 0] 50))
    replace B := thenB B (belowA w (.cells #[.int .i64 0, .slice none 0 0] 50))
    have VR := V.new w [.int .i64 0, .slice none 0 0] 50
    obtain ⟨s_VR, f_VR, z_VR⟩ := VR.open
    have Bo := B
    go_wp2_with fail
    refine (CA.out _ ha).mono ?_
    rintro e w1 ⟨rfl, b1⟩
    clear s_VR f_VR z_VR
    have S1 := b1.size
    simp only [World.size_alloc] at S1
    replace VR := VR.kept b1
    replace ha := ha.kept b1
    replace hb := hb.kept b1
    replace B := thenB B b1
    clear b1
    obtain ⟨s_VR, f_VR, z_VR⟩ := VR.open
    have Bo := B
    go_wp2
    refine bodyPost_ret (v := .agg #[.int .i64 (ssC xs), .slice none 0 0]) (by first | (simp [results, Try.results25, go_sem]; done) | simp [results, Try.results25, go_sem, f_VR]) rfl ⟨none, 0, 0, rfl, rfl, ?_, ?_⟩
    · first | exact OwnL.none | (refine OwnL.mono ?_ hSO; (repeat' first | with_reducible exact O | with_reducible refine OwnL.below ?_ ?_ _ | with_reducible refine OwnL.kept ?_ (Below.refl _ _).drew | (simp; done) | (simp; omega)))
    · repeat' first | with_reducible exact Bo | with_reducible refine Below.setCell ?_ ?_ _ | with_reducible refine Below.alloc ?_ ?_ _ | with_reducible refine Below.drew ?_ | (simp; try omega)
  · rw [r1, r2]
    clear r1 r2
    rw [g1] at CA
    have t1 : (ssC ys != 0) = true := by simp [g2]
    clear g1 g2
    go_enter Try.func25, Try.ntmps25
    have B := Below.refl w.heap.size w
    replace ha := ha.kept (belowA w (.cells #[.int .i64 0, .slice none 0 0] 50))
    replace hb := hb.kept (belowA w (.cells #[.int .i64 0, .slice none 0 0] 50))
    replace B := thenB B (belowA w (.cells #[.int .i64 0, .slice none 0 0] 50))
    have VR := V.new w [.int .i64 0, .slice none 0 0] 50
    obtain ⟨s_VR, f_VR, z_VR⟩ := VR.open
    have Bo := B
    go_wp2_with fail
    refine (CA.out _ ha).mono ?_
    rintro e w1 ⟨rfl, b1⟩
    clear s_VR f_VR z_VR
    have S1 := b1.size
    simp only [World.size_alloc] at S1
    replace VR := VR.kept b1
    replace ha := ha.kept b1
    replace hb := hb.kept b1
    replace B := thenB B b1
    clear b1
    obtain ⟨s_VR, f_VR, z_VR⟩ := VR.open
    have Bo := B
    go_wp2_with fail
    refine (CB.out _ hb).mono ?_
    rintro e w2 ⟨rfl, b2⟩
    clear s_VR f_VR z_VR
    have S2 := b2.size
    replace VR := VR.kept b2
    replace ha := ha.kept b2
    replace hb := hb.kept b2
    replace B := thenB B b2
    clear b2
    obtain ⟨s_VR, f_VR, z_VR⟩ := VR.open
    have Bo := B
    go_wp2
    refine bodyPost_ret (v := .agg #[.int .i64 (ssC ys), .slice none 0 0]) (by first | (simp [results, Try.results25, go_sem]; done) | simp [results, Try.results25, go_sem, f_VR]) rfl ⟨none, 0, 0, rfl, rfl, ?_, ?_⟩
    · first | exact OwnL.none | (refine OwnL.mono ?_ hSO; (repeat' first | with_reducible exact O | with_reducible refine OwnL.below ?_ ?_ _ | with_reducible refine OwnL.kept ?_ (Below.refl _ _).drew | (simp; done) | (simp; omega)))
    · repeat' first | with_reducible exact Bo | with_reducible refine Below.setCell ?_ ?_ _ | with_reducible refine Below.alloc ?_ ?_ _ | with_reducible refine Below.drew ?_ | (simp; try omega)
  · rw [r1, r2]
    clear r1 r2
    rw [g1] at CA
    rw [g2] at CB
    have z1 := ssC_zero g1
    have z2 := ssC_zero g2
    generalize hfu : nall ys xs [] = full
    go_enter Try.func25, Try.ntmps25
    have B := Below.refl w.heap.size w
    replace ha := ha.kept (belowA w (.cells #[.int .i64 0, .slice none 0 0] 50))
    replace hb := hb.kept (belowA w (.cells #[.int .i64 0, .slice none 0 0] 50))
    replace B := thenB B (belowA w (.cells #[.int .i64 0, .slice none 0 0] 50))
    have VR := V.new w [.int .i64 0, .slice none 0 0] 50
    obtain ⟨s_VR, f_VR, z_VR⟩ := VR.open
    have Bo := B
    go_wp2_with fail
    refine (CA.out _ ha).mono ?_
    rintro e w1 ⟨rfl, b1⟩
    clear s_VR f_VR z_VR
    have S1 := b1.size
    simp only [World.size_alloc] at S1
    replace VR := VR.kept b1
    replace ha := ha.kept b1
    replace hb := hb.kept b1
    replace B := thenB B b1
    clear b1
    obtain ⟨s_VR, f_VR, z_VR⟩ := VR.open
    have Bo := B
    go_wp2_with fail
    refine (CB.out _ hb).mono ?_
    rintro e w2 ⟨rfl, b2⟩
    clear s_VR f_VR z_VR
    have S2 := b2.size
    replace VR := VR.kept b2
    replace ha := ha.kept b2
    replace hb := hb.kept b2
    replace B := thenB B b2
    clear b2
    obtain ⟨s_VR, f_VR, z_VR⟩ := VR.open
    have Bo := B
    clear g1 g2
    go_wp2_with fail
    refine (l3Narrow_ok a b n m ca cb xs ys _ _ ha hb hn hm (by omega) (by omega) z1.2 z2.2 hfu).mono ?_
    rintro e w3 ⟨c, d, k, rfl, hk, O, b3⟩
    clear s_VR f_VR z_VR
    have S3 := b3.size
    replace VR := VR.kept b3
    replace ha := ha.kept b3
    replace hb := hb.kept b3
    replace B := thenB B b3
    clear b3
    obtain ⟨s_VR, f_VR, z_VR⟩ := VR.open
    have Bo := B
    have hSO : w.heap.size ≤ w2.heap.size := by omega
    clear hfu
    have HK := Hid.mk hk
    clear hk
    go_wp2
    refine bodyPost_ret (v := .agg #[.int .i64 (nrK full), .slice c k d]) (by first | (simp [results, Try.results25, go_sem]; done) | simp [results, Try.results25, go_sem, f_VR]) rfl ⟨c, d, k, rfl, HK.out, ?_, ?_⟩
    · first | exact OwnL.none | (refine OwnL.mono ?_ hSO; (repeat' first | with_reducible exact O | with_reducible refine OwnL.below ?_ ?_ _ | with_reducible refine OwnL.kept ?_ (Below.refl _ _).drew | (simp; done) | (simp; omega)))
    · repeat' first | with_reducible exact Bo | with_reducible refine Below.setCell ?_ ?_ _ | with_reducible refine Below.alloc ?_ ?_ _ | with_reducible refine Below.drew ?_ | (simp; try omega)

end Go.Proofs.Ytmbkbbephmblmaa
