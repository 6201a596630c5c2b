/- PutBoth: both sides. -/
import Derived.Test.YteeoodbmgheikaaTmT
import Derived.Test.YteeoodbmgheikaaMtC
namespace Go.Proofs.Yteeoodbmgheikaa
open Go.RowKit

theorem build_bothT (x y : Int) (w : World) : (Instr.build 34 #[(0, .int .i64 7), (1, .int .i64 x), (2, .int .i64 y)]).run Try.prog w = .ok (.agg #[.int .i64 7, .int .i64 x, .int .i64 y, .int .i64 0]) w := run_build w 34 _ _ (by kernel_rfl)

set_option maxRecDepth 20000 in
set_option maxHeartbeats 4000000 in
theorem l5Both_ok (a : Option Addr) (n ca : Nat) (xs : List T4) (x y : Int) (w : World) (ha : RdTerm w a xs) (hn : xs.length = n) (hx : n ≤ 1000000) (hcn : a = none → ca = 0) :
    Calls Try.prog 91 #[.slice a n ca, .int .i64 x, .int .i64 y] w fun e w' => ∃ c d, e = .returned (.agg #[.int .i64 (put xs (bothT x y)).c, .int .i64 (put xs (bothT x y)).k, .slice c (put xs (bothT x y)).l.length d]) ∧ OwnTerm w' w.heap.size c d (put xs (bothT x y)).l ∧ Below w.heap.size w w' := by
  have q1 := build_bothT
  have CP := Hid.mk (fun w h => l5Put_ok a n ca xs (bothT x y) w h hn hx hcn)
  generalize put xs (bothT x y) = P at *
  obtain ⟨kc, kk, ls⟩ := P
  simp only at *
  obtain ⟨kl, hkl⟩ : ∃ m, ls.length = m := ⟨_, rfl⟩
  rw [hkl] at CP ⊢
  replace hkl := Hid.mk hkl
  unfold bothT at CP
  go_enter Try.func91, Try.ntmps91
  have B := Below.refl w.heap.size w
  replace ha := ha.kept (belowA w (.cells #[.int .i64 0, .int .i64 0, .slice none 0 0] 113))
  replace B := thenB B (belowA w (.cells #[.int .i64 0, .int .i64 0, .slice none 0 0] 113))
  have VR := V.new w [.int .i64 0, .int .i64 0, .slice none 0 0] 113
  obtain ⟨s_VR, f_VR, z_VR⟩ := VR.open
  have Bo := B
  go_wp2_with (first | (go_at_call 105; refine (l3Min_ok _ _ _).mono ?_; rintro e wq ⟨rfl, rfl⟩) | (go_at_call 78; refine (l3Max_ok _ _ _).mono ?_; rintro e wq ⟨rfl, rfl⟩) | fail)
  refine (CP.out _ ha).mono ?_
  rintro e w1 ⟨c, d, rfl, O, b1⟩
  clear s_VR f_VR z_VR
  have S1 := b1.size
  simp only [World.size_alloc] at S1
  replace VR := VR.kept b1
  replace ha := ha.kept b1
  replace B := thenB B b1
  clear b1
  obtain ⟨s_VR, f_VR, z_VR⟩ := VR.open
  have Bo := B
  have OL := Hid.mk (fun b hb => (O.lt b hb).1)
  clear s_VR f_VR z_VR
  have VF := Hid.mk (VR.filled [.int .i64 kc, .int .i64 kk, .slice c kl d] rfl)
  have HT := Hid.mk VR.there
  have BR := belowCells B (show w.heap.size ≤ w.heap.size by (first | omega | (simp; done) | (simp; omega))) 0 [.int .i64 kc, .int .i64 kk, .slice c kl d]
  replace BR := Hid.mk BR
  have HO := Hid.mk ((O.mono (show w.heap.size ≤ _ by first | omega | (simp; done) | (simp; omega))).apart (B := w.heap.size) (by intro b hb; have := OL.out b hb; first | omega | (simp at this; omega)) 0 [.int .i64 kc, .int .i64 kk, .slice c kl d])
  obtain ⟨s_VR, f_VR, z_VR⟩ := VR.open
  go_wp2_with (refine wpList_store_mid rfl 113 _ _ rfl (w.heap.size) 0 #[.int .i64 kc, .int .i64 kk, .slice c kl d] rfl rfl HT.out (by kernel_rfl) (by kernel_rfl) ?_)
  refine bodyPost_ret (v := .agg #[.int .i64 kc, .int .i64 kk, .slice c kl d]) (results_row Try.results91 _ _ (w.heap.size) [.int .i64 kc, .int .i64 kk, .slice c kl d] _ rfl VF.out Try.underlying113 rfl (by kernel_rfl)) rfl ⟨c, d, rfl, HO.out, BR.out⟩

theorem okI_min {x y : Int} (hx : okI x) (hy : okI y) : okI (min x y) := by
  rcases Int.le_total x y with h | h
  · rw [Int.min_eq_left h]; exact hx
  · rw [Int.min_eq_right h]; exact hy

theorem okI_max {x y : Int} (hx : okI x) (hy : okI y) : okI (max x y) := by
  rcases Int.le_total x y with h | h
  · rw [Int.max_eq_right h]; exact hy
  · rw [Int.max_eq_left h]; exact hx

theorem okT_both {x y : Int} (hx : okI x) (hy : okI y) : okT (bothT x y) := by
  unfold bothT
  exact ⟨(okI_of (by decide) (by decide) : okI 7), okI_min hx hy, okI_max hx hy, (okI_of (by decide) (by decide) : okI 0)⟩

end Go.Proofs.Yteeoodbmgheikaa
