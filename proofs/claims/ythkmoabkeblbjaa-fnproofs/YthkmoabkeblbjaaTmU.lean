/- PutBoth: both sides. -/
import Derived.Test.YthkmoabkeblbjaaTmT
import Derived.Test.YthkmoabkeblbjaaMinM
namespace Go.Proofs.Ythkmoabkeblbjaa
open Go.RowKit

theorem build_bothT (x y : Int) (w : World) : (Instr.build 36 #[(0, .int .i64 7), (1, .int .i64 x), (2, .int .i64 y)]).run Try.prog w = .ok (.agg #[.int .i64 7, .int .i64 x, .int .i64 y, .int .i64 0]) w := run_build w 36 _ _ (by kernel_rfl)

set_option maxRecDepth 20000 in
set_option maxHeartbeats 4000000 in
theorem l5Both_ok (a : Option Addr) (n ca : Nat) (xs : List T4) (x y : Int) (w : World) (ha : RdTerm w a xs) (hn : xs.length = n) (hx : n ≤ 1000000) (hcn : a = none → ca = 0) :
    Calls Try.prog 120 #[.slice a n ca, .int .i64 x, .int .i64 y] w fun e w' => ∃ c d, e = .returned (.agg #[.int .i64 (put xs (bothT x y)).c, .int .i64 (put xs (bothT x y)).k, .slice c (put xs (bothT x y)).l.length d]) ∧ OwnTerm w' w.heap.size c d (put xs (bothT x y)).l ∧ Below w.heap.size w w' := by
  have q1 := build_bothT
  have CP := Hid.mk (fun w h => l5Put_ok a n ca xs (bothT x y) w h hn hx hcn)
  generalize put xs (bothT x y) = P at *
  obtain ⟨kc, kk, ls⟩ := P
  simp only at *
  obtain ⟨kl, hkl⟩ : ∃ m, ls.length = m := ⟨_, rfl⟩
  rw [hkl] at CP ⊢
  replace hkl := Hid.mk hkl
  unfold bothT at CP
  go_enter Try.func120, Try.ntmps120
  have B := Below.refl w.heap.size w
  replace ha := ha.kept (belowA w (.cells #[.int .i64 0, .int .i64 0, .slice none 0 0] 33))
  replace B := thenB B (belowA w (.cells #[.int .i64 0, .int .i64 0, .slice none 0 0] 33))
  have VR := V.new w [.int .i64 0, .int .i64 0, .slice none 0 0] 33
  obtain ⟨s_VR, f_VR, z_VR⟩ := VR.open
  have Bo := B
  go_wp2_with (first | (go_at_call 110; refine (l3Min_ok _ _ _).mono ?_; rintro e wq ⟨rfl, rfl⟩) | (go_at_call 63; refine (l3Max_ok _ _ _).mono ?_; rintro e wq ⟨rfl, rfl⟩) | fail)
  refine (CP.out _ ha).mono ?_
  rintro e w1 ⟨c, d, rfl, O, b1⟩
  clear s_VR f_VR z_VR
  have S1 := b1.size
  simp only [World.size_alloc] at S1
  replace VR := VR.kept b1
  replace ha := ha.kept b1
  replace B := thenB B b1
  clear b1
  obtain ⟨s_VR, f_VR, z_VR⟩ := VR.open
  have Bo := B
  have OL := Hid.mk (fun b hb => (O.lt b hb).1)
  clear s_VR f_VR z_VR
  have VF := Hid.mk (VR.filled [.int .i64 kc, .int .i64 kk, .slice c kl d] rfl)
  have HT := Hid.mk VR.there
  have BR := belowCells B (show w.heap.size ≤ w.heap.size by (first | omega | (simp; done) | (simp; omega))) 0 [.int .i64 kc, .int .i64 kk, .slice c kl d]
  replace BR := Hid.mk BR
  have HO := Hid.mk ((O.mono (show w.heap.size ≤ _ by first | omega | (simp; done) | (simp; omega))).apart (B := w.heap.size) (by intro b hb; have := OL.out b hb; first | omega | (simp at this; omega)) 0 [.int .i64 kc, .int .i64 kk, .slice c kl d])
  obtain ⟨s_VR, f_VR, z_VR⟩ := VR.open
  go_wp2_with (refine wpList_store_mid rfl 33 _ _ rfl (w.heap.size) 0 #[.int .i64 kc, .int .i64 kk, .slice c kl d] rfl rfl HT.out (by kernel_rfl) (by kernel_rfl) ?_)
  refine bodyPost_ret (v := .agg #[.int .i64 kc, .int .i64 kk, .slice c kl d]) (results_row Try.results120 _ _ (w.heap.size) [.int .i64 kc, .int .i64 kk, .slice c kl d] _ rfl VF.out Try.underlying33 rfl (by kernel_rfl)) rfl ⟨c, d, rfl, HO.out, BR.out⟩

set_option maxHeartbeats 1000000 in
theorem bothOf_ok (x y : Int) (w : World) : Calls Try.prog 71 #[.int .i64 x, .int .i64 y] w fun e w' => e = .returned (.agg #[.int .i64 7, .int .i64 (min x y), .int .i64 (max x y), .int .i64 0]) ∧ Below w.heap.size w w' := by
  have q1 := build_bothT
  rcases (by omega : x < y ∨ x = y ∨ y < x) with h | h | h
  · have e1 : min x y = x := Int.min_eq_left (by omega)
    have e2 : max x y = y := Int.max_eq_right (by omega)
    rw [e1, e2]
    clear e1 e2
    have h2 : x ≤ y := by omega
    have h3 : ¬ (y < x) := by omega
    have h4 : ¬ (y ≤ x) := by omega
    go_enter Try.func71, Try.ntmps71
    go_wp2
    refine bodyPost_ret (v := .agg #[.int .i64 7, .int .i64 x, .int .i64 y, .int .i64 0]) (by simp [results, Try.results71, go_sem]) rfl ⟨rfl, ?_⟩
    repeat' (first | exact Below.refl _ _ | refine Below.alloc ?_ (by simp) _ | refine Below.setCell ?_ (by simp) _ | refine Below.drew ?_)
  · subst h
    have e1 : min x x = x := Int.min_self x
    have e2 : max x x = x := Int.max_self x
    rw [e1, e2]
    clear e1 e2
    have h2 : x ≤ x := by omega
    have h3 : ¬ (x < x) := by omega
    go_enter Try.func71, Try.ntmps71
    go_wp2
    refine bodyPost_ret (v := .agg #[.int .i64 7, .int .i64 x, .int .i64 x, .int .i64 0]) (by simp [results, Try.results71, go_sem]) rfl ⟨rfl, ?_⟩
    repeat' (first | exact Below.refl _ _ | refine Below.alloc ?_ (by simp) _ | refine Below.setCell ?_ (by simp) _ | refine Below.drew ?_)
  · have e1 : min x y = y := Int.min_eq_right (by omega)
    have e2 : max x y = x := Int.max_eq_left (by omega)
    rw [e1, e2]
    clear e1 e2
    have h2 : y ≤ x := by omega
    have h3 : ¬ (x < y) := by omega
    have h4 : ¬ (x ≤ y) := by omega
    go_enter Try.func71, Try.ntmps71
    go_wp2
    refine bodyPost_ret (v := .agg #[.int .i64 7, .int .i64 y, .int .i64 x, .int .i64 0]) (by simp [results, Try.results71, go_sem]) rfl ⟨rfl, ?_⟩
    repeat' (first | exact Below.refl _ _ | refine Below.alloc ?_ (by simp) _ | refine Below.setCell ?_ (by simp) _ | refine Below.drew ?_)

theorem okI_min {x y : Int} (hx : okI x) (hy : okI y) : okI (min x y) := by
  rcases Int.le_total x y with h | h
  · rw [Int.min_eq_left h]; exact hx
  · rw [Int.min_eq_right h]; exact hy

theorem okI_max {x y : Int} (hx : okI x) (hy : okI y) : okI (max x y) := by
  rcases Int.le_total x y with h | h
  · rw [Int.max_eq_right h]; exact hy
  · rw [Int.max_eq_left h]; exact hx

theorem okT_both {x y : Int} (hx : okI x) (hy : okI y) : okT (bothT x y) := by
  unfold bothT
  exact ⟨(okI_of (by decide) (by decide) : okI 7), okI_min hx hy, okI_max hx hy, (okI_of (by decide) (by decide) : okI 0)⟩

end Go.Proofs.Ythkmoabkeblbjaa
