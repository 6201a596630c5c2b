/- The draw of two lists of suites. -/
import Derived.Test.YthaaompkcomfcaaPsQ
namespace Go.Proofs.Ythaaompkcomfcaa
open Go.RowKit

set_option maxRecDepth 20000 in
set_option maxHeartbeats 4000000 in
theorem l8Two_ok (a : Option Addr) (n ca : Nat) (zs : List Int) (w : World) (ha : Rd .u8 w a zs) (hb : Bytes zs) (hn : zs.length = n) (hx : n ≤ 1048577) :
    Calls Try.prog 45 #[.slice a n ca] w fun e w' => ∃ (c1 : Option Addr) (d1 k1 : Nat) (xs : List Su) (c2 : Option Addr) (d2 k2 : Nat) (ys : List Su), e = .returned (.tuple #[.slice c1 k1 d1, .slice c2 k2 d2]) ∧ xs.length = k1 ∧ ys.length = k2 ∧ k1 ≤ d1 ∧ d1 ≤ maxLen ∧ k2 ≤ d2 ∧ d2 ≤ maxLen ∧ k1 ≤ 11 ∧ RdSuite w' c1 xs ∧ RdSuite w' c2 ys ∧ Below w.heap.size w w' := by
  have S := Src.new w a n ca zs 81 ha
  have G := belowA w (.cells #[.slice a n ca, .int .i64 0] 81)
  go_enter Try.func45, Try.ntmps45
  go_wp2_with (first | (go_at_call 62; go_in) | fail)
  refine (l8List_ok (w.heap.size) a n ca zs 0 _ S hb hn hx (by omega)).mono ?_
  rintro e w1 ⟨c1, d1, k1, xs, q1, rfl, hk1, hm1, O1, hq1, S1, g1⟩
  have OLT := Hid.mk O1.lt
  have G1 := G.grown g1 (by simp) (by intro k hk; simp at hk; omega)
  have Z1 := g1.size
  simp only [World.size_alloc] at Z1
  clear S g1 G
  have O1' := Hid.mk O1
  clear O1
  have G1' := Hid.mk G1
  clear G1
  go_wp2_with fail
  refine (l8List_ok (w.heap.size) a n ca zs q1 _ S1 hb hn hx (by omega)).mono ?_
  rintro e w2 ⟨c2, d2, k2, ys, q2, rfl, hk2, hm2, O2, hq2, S2, g2⟩
  have O3 := O1'.out.grown g2 (fun b hb => by have := (OLT.out b hb).1; simp only [World.size_alloc] at this; simp; omega)
  have G2 := G1'.out.grown g2 (by omega) (by intro k hk; simp at hk; omega)
  have cp1 := O3.caps
  have cp2 := O2.caps
  rw [hk1] at cp1
  rw [hk2] at cp2
  have R1 := Hid.mk O3.rd
  have R2 := Hid.mk O2.rd
  have GF := Hid.mk G2
  clear O3 O2 O1' G1' S1 S2 g2 G2
  go_wp2
  refine bodyPost_ret (v := .tuple #[.slice c1 k1 d1, .slice c2 k2 d2]) (by simp [results, Try.results45, go_sem]) rfl ⟨c1, d1, k1, xs, c2, d2, k2, ys, rfl, hk1, hk2, cp1.1, cp1.2, cp2.1, cp2.2, hm1, R1.out, R2.out, GF.out⟩

set_option maxRecDepth 20000 in
set_option maxHeartbeats 4000000 in
theorem drawChooseSuite_ok (a : Option Addr) (n ca : Nat) (zs : List Int) (w : World) (ha : Rd .u8 w a zs) (hb : Bytes zs) (hn : zs.length = n) (hx : n ≤ 1048577) :
    Calls Try.prog 13 #[.slice a n ca] w fun e w' => ∃ (c1 : Option Addr) (d1 k1 : Nat) (xs : List Su) (c2 : Option Addr) (d2 k2 : Nat) (ys : List Su), e = .returned (.tuple #[.slice c1 k1 d1, .slice c2 k2 d2]) ∧ xs.length = k1 ∧ ys.length = k2 ∧ k1 ≤ d1 ∧ d1 ≤ maxLen ∧ k2 ≤ d2 ∧ d2 ≤ maxLen ∧ k1 ≤ 11 ∧ RdSuite w' c1 xs ∧ RdSuite w' c2 ys ∧ Below w.heap.size w w' := by
  go_enter Try.func13, Try.ntmps13
  go_wp2_with fail
  refine (l8Two_ok a n ca zs _ ha hb hn hx).mono ?_
  rintro e w1 ⟨c1, d1, k1, xs, c2, d2, k2, ys, rfl, hk1, hk2, p1, p2, p3, p4, hm1, R1, R2, B⟩
  go_wp2
  refine bodyPost_ret (v := .tuple #[.slice c1 k1 d1, .slice c2 k2 d2]) (by simp [results, Try.results13, go_sem]) rfl ⟨c1, d1, k1, xs, c2, d2, k2, ys, rfl, hk1, hk2, p1, p2, p3, p4, hm1, R1, R2, B⟩

end Go.Proofs.Ythaaompkcomfcaa
