/- The law on 'MeetSels': its walk. -/
import Derived.Test.YtmbkbbephmblmaaMtB
import Derived.Test.YtmbkbbephmblmaaMtF
import Derived.Test.YtmbkbbephmblmaaSelH
namespace Go.Proofs.Ytmbkbbephmblmaa
open Go.RowKit

set_option maxHeartbeats 4000000 in
theorem xMeet_walk (x y : S9) (w : World) :
    Calls Try.prog 8 #[.agg #[.int .i64 x.a, .int .i64 x.b, .int .i64 x.c, .int .i64 x.d, .int .i64 x.e, .int .i64 x.f, .int .i64 x.g, .int .i64 x.h, .int .i64 x.r], .agg #[.int .i64 y.a, .int .i64 y.b, .int .i64 y.c, .int .i64 y.d, .int .i64 y.e, .int .i64 y.f, .int .i64 y.g, .int .i64 y.h, .int .i64 y.r]] w fun e w' => e = .returned (.bool true) ∧ Below w.heap.size w w' := by
  have CS := Hid.mk (fun w => specMeetSels_ok x y w)
  have CI := Hid.mk (fun w => implMeetSels_ok x y w)
  generalize mtC x y = k at *
  generalize mtS x y = z at *
  go_enter Try.func8, Try.ntmps8
  have B := Below.refl w.heap.size w
  replace B := thenB B (belowA w (.cells #[.int .i64 x.a, .int .i64 x.b, .int .i64 x.c, .int .i64 x.d, .int .i64 x.e, .int .i64 x.f, .int .i64 x.g, .int .i64 x.h, .int .i64 x.r] 57))
  have VX := V.new w [.int .i64 x.a, .int .i64 x.b, .int .i64 x.c, .int .i64 x.d, .int .i64 x.e, .int .i64 x.f, .int .i64 x.g, .int .i64 x.h, .int .i64 x.r] 57
  replace VX := VX.kept (belowA (w.alloc (.cells #[.int .i64 x.a, .int .i64 x.b, .int .i64 x.c, .int .i64 x.d, .int .i64 x.e, .int .i64 x.f, .int .i64 x.g, .int .i64 x.h, .int .i64 x.r] 57)) (.cells #[.int .i64 y.a, .int .i64 y.b, .int .i64 y.c, .int .i64 y.d, .int .i64 y.e, .int .i64 y.f, .int .i64 y.g, .int .i64 y.h, .int .i64 y.r] 57))
  replace B := thenB B (belowA (w.alloc (.cells #[.int .i64 x.a, .int .i64 x.b, .int .i64 x.c, .int .i64 x.d, .int .i64 x.e, .int .i64 x.f, .int .i64 x.g, .int .i64 x.h, .int .i64 x.r] 57)) (.cells #[.int .i64 y.a, .int .i64 y.b, .int .i64 y.c, .int .i64 y.d, .int .i64 y.e, .int .i64 y.f, .int .i64 y.g, .int .i64 y.h, .int .i64 y.r] 57))
  have VY : V ((w.alloc (.cells #[.int .i64 x.a, .int .i64 x.b, .int .i64 x.c, .int .i64 x.d, .int .i64 x.e, .int .i64 x.f, .int .i64 x.g, .int .i64 x.h, .int .i64 x.r] 57)).alloc (.cells #[.int .i64 y.a, .int .i64 y.b, .int .i64 y.c, .int .i64 y.d, .int .i64 y.e, .int .i64 y.f, .int .i64 y.g, .int .i64 y.h, .int .i64 y.r] 57)) (w.heap.size + 1) [.int .i64 y.a, .int .i64 y.b, .int .i64 y.c, .int .i64 y.d, .int .i64 y.e, .int .i64 y.f, .int .i64 y.g, .int .i64 y.h, .int .i64 y.r] := V.newAt _ _ _ _ (by simp)
  have Sz : w.heap.size + 1 < ((w.alloc (.cells #[.int .i64 x.a, .int .i64 x.b, .int .i64 x.c, .int .i64 x.d, .int .i64 x.e, .int .i64 x.f, .int .i64 x.g, .int .i64 x.h, .int .i64 x.r] 57)).alloc (.cells #[.int .i64 y.a, .int .i64 y.b, .int .i64 y.c, .int .i64 y.d, .int .i64 y.e, .int .i64 y.f, .int .i64 y.g, .int .i64 y.h, .int .i64 y.r] 57)).heap.size := by simp
  go_upto_region 1 with fail
  generalize ((w.alloc (.cells #[.int .i64 x.a, .int .i64 x.b, .int .i64 x.c, .int .i64 x.d, .int .i64 x.e, .int .i64 x.f, .int .i64 x.g, .int .i64 x.h, .int .i64 x.r] 57)).alloc (.cells #[.int .i64 y.a, .int .i64 y.b, .int .i64 y.c, .int .i64 y.d, .int .i64 y.e, .int .i64 y.f, .int .i64 y.g, .int .i64 y.h, .int .i64 y.r] 57)) = wq at *
  have K : ∀ w' : World, Below wq.heap.size wq w' → (w'.cell? ⟨w.heap.size, 0, none⟩ = some (.int .i64 x.a) ∧ w'.cell? ⟨w.heap.size, 1, none⟩ = some (.int .i64 x.b) ∧ w'.cell? ⟨w.heap.size, 2, none⟩ = some (.int .i64 x.c) ∧ w'.cell? ⟨w.heap.size, 3, none⟩ = some (.int .i64 x.d) ∧ w'.cell? ⟨w.heap.size, 4, none⟩ = some (.int .i64 x.e) ∧ w'.cell? ⟨w.heap.size, 5, none⟩ = some (.int .i64 x.f) ∧ w'.cell? ⟨w.heap.size, 6, none⟩ = some (.int .i64 x.g) ∧ w'.cell? ⟨w.heap.size, 7, none⟩ = some (.int .i64 x.h) ∧ w'.cell? ⟨w.heap.size, 8, none⟩ = some (.int .i64 x.r) ∧ w'.cell? ⟨w.heap.size + 1, 0, none⟩ = some (.int .i64 y.a) ∧ w'.cell? ⟨w.heap.size + 1, 1, none⟩ = some (.int .i64 y.b) ∧ w'.cell? ⟨w.heap.size + 1, 2, none⟩ = some (.int .i64 y.c) ∧ w'.cell? ⟨w.heap.size + 1, 3, none⟩ = some (.int .i64 y.d) ∧ w'.cell? ⟨w.heap.size + 1, 4, none⟩ = some (.int .i64 y.e) ∧ w'.cell? ⟨w.heap.size + 1, 5, none⟩ = some (.int .i64 y.f) ∧ w'.cell? ⟨w.heap.size + 1, 6, none⟩ = some (.int .i64 y.g) ∧ w'.cell? ⟨w.heap.size + 1, 7, none⟩ = some (.int .i64 y.h) ∧ w'.cell? ⟨w.heap.size + 1, 8, none⟩ = some (.int .i64 y.r)) := fun w' h => ⟨(VX.kept h).2.1 0 (by simp), (VX.kept h).2.1 1 (by simp), (VX.kept h).2.1 2 (by simp), (VX.kept h).2.1 3 (by simp), (VX.kept h).2.1 4 (by simp), (VX.kept h).2.1 5 (by simp), (VX.kept h).2.1 6 (by simp), (VX.kept h).2.1 7 (by simp), (VX.kept h).2.1 8 (by simp), (VY.kept h).2.1 0 (by simp), (VY.kept h).2.1 1 (by simp), (VY.kept h).2.1 2 (by simp), (VY.kept h).2.1 3 (by simp), (VY.kept h).2.1 4 (by simp), (VY.kept h).2.1 5 (by simp), (VY.kept h).2.1 6 (by simp), (VY.kept h).2.1 7 (by simp), (VY.kept h).2.1 8 (by simp)⟩
  have K := Hid.mk K
  go_upto_region 1 with fail
  go_cut [5] (fun p wx => ∃ P, p = .pointer (some ⟨P, 0, none⟩) ∧ V wx P [.int .i64 k, .int .i64 z.a, .int .i64 z.b, .int .i64 z.c, .int .i64 z.d, .int .i64 z.e, .int .i64 z.f, .int .i64 z.g, .int .i64 z.h, .int .i64 z.r] ∧ V wx (w.heap.size) [.int .i64 x.a, .int .i64 x.b, .int .i64 x.c, .int .i64 x.d, .int .i64 x.e, .int .i64 x.f, .int .i64 x.g, .int .i64 x.h, .int .i64 x.r] ∧ V wx (w.heap.size + 1) [.int .i64 y.a, .int .i64 y.b, .int .i64 y.c, .int .i64 y.d, .int .i64 y.e, .int .i64 y.f, .int .i64 y.g, .int .i64 y.h, .int .i64 y.r] ∧ Below w.heap.size w wx ∧ wq.heap.size ≤ P)
  case first =>
    go_region_held3 (fun w' => w'.cell? ⟨w.heap.size, 0, none⟩ = some (.int .i64 x.a) ∧ w'.cell? ⟨w.heap.size, 1, none⟩ = some (.int .i64 x.b) ∧ w'.cell? ⟨w.heap.size, 2, none⟩ = some (.int .i64 x.c) ∧ w'.cell? ⟨w.heap.size, 3, none⟩ = some (.int .i64 x.d) ∧ w'.cell? ⟨w.heap.size, 4, none⟩ = some (.int .i64 x.e) ∧ w'.cell? ⟨w.heap.size, 5, none⟩ = some (.int .i64 x.f) ∧ w'.cell? ⟨w.heap.size, 6, none⟩ = some (.int .i64 x.g) ∧ w'.cell? ⟨w.heap.size, 7, none⟩ = some (.int .i64 x.h) ∧ w'.cell? ⟨w.heap.size, 8, none⟩ = some (.int .i64 x.r) ∧ w'.cell? ⟨w.heap.size + 1, 0, none⟩ = some (.int .i64 y.a) ∧ w'.cell? ⟨w.heap.size + 1, 1, none⟩ = some (.int .i64 y.b) ∧ w'.cell? ⟨w.heap.size + 1, 2, none⟩ = some (.int .i64 y.c) ∧ w'.cell? ⟨w.heap.size + 1, 3, none⟩ = some (.int .i64 y.d) ∧ w'.cell? ⟨w.heap.size + 1, 4, none⟩ = some (.int .i64 y.e) ∧ w'.cell? ⟨w.heap.size + 1, 5, none⟩ = some (.int .i64 y.f) ∧ w'.cell? ⟨w.heap.size + 1, 6, none⟩ = some (.int .i64 y.g) ∧ w'.cell? ⟨w.heap.size + 1, 7, none⟩ = some (.int .i64 y.h) ∧ w'.cell? ⟨w.heap.size + 1, 8, none⟩ = some (.int .i64 y.r)) ((refine K.out _ ?_; (repeat' first | with_reducible exact Below.refl _ _ | with_reducible refine Below.drew ?_ | with_reducible refine Below.setCell ?_ ?_ _ | with_reducible refine thenB ?_ bc | with_reducible refine thenB ?_ bb | with_reducible refine thenB ?_ ba | with_reducible refine thenB ?_ (belowA _ _) | (simp; done) | (simp; omega)))) (first | (go_at_call 13; have hz := bb; clear hz; refine (CS.out _).mono ?_; rintro e wc ⟨rfl, bc⟩; obtain ⟨hcc, hfc⟩ := bcell bc; have hsc := bc.size; (try simp at hsc); (try have hsc0 : wq.heap.size < wc.heap.size := by omega); (try have hsc1 : wa.heap.size < wc.heap.size := by omega); (try have hsc2 : wb.heap.size < wc.heap.size := by omega)) | (go_at_call 28; have hz := ba; clear hz; refine (toSel_ok y _).mono ?_; rintro e wb ⟨rfl, bb⟩; obtain ⟨hcb, hfb⟩ := bcell bb; have hsb := bb.size; (try simp at hsb); (try have hsb0 : wq.heap.size < wb.heap.size := by omega); (try have hsb1 : wa.heap.size < wb.heap.size := by omega)) | (go_at_call 28; refine (toSel_ok x _).mono ?_; rintro e wa ⟨rfl, ba⟩; obtain ⟨hca, hfa⟩ := bcell ba; have hsa := ba.size; (try simp at hsa); (try have hsa0 : wq.heap.size < wa.heap.size := by omega)))
    all_goals
      go_wp2_with fail
      go_meet
      have hv_VX := VX.1
      have hv_VY := VY.1
      refine ⟨_, rfl, ?_, ?_, ?_, ?_, ?_⟩
      · first | with_reducible exact V.new _ _ _ | with_reducible refine V.fill10 (z0 := .int .i64 0) (z1 := .int .i64 0) (z2 := .int .i64 0) (z3 := .int .i64 0) (z4 := .int .i64 0) (z5 := .int .i64 0) (z6 := .int .i64 0) (z7 := .int .i64 0) (z8 := .int .i64 0) (z9 := .int .i64 0) ?_ _ _ _ _ _ _ _ _ _ _
        all_goals (try (repeat' first | with_reducible exact V.new _ _ _ | with_reducible refine V.kept ?_ bc | with_reducible refine V.kept ?_ bb | with_reducible refine V.kept ?_ ba | with_reducible refine V.kept ?_ ((Below.refl _ _).drew)))
      · repeat' first | with_reducible exact VX | with_reducible exact VY | with_reducible exact V.new _ _ _ | with_reducible refine V.other ?_ ?_ _ | with_reducible refine V.kept ?_ bc | with_reducible refine V.kept ?_ bb | with_reducible refine V.kept ?_ ba | with_reducible refine V.kept ?_ (belowA _ _) | with_reducible refine V.kept ?_ ((Below.refl _ _).drew) | (simp; done) | (simp; omega)
      · repeat' first | with_reducible exact VX | with_reducible exact VY | with_reducible exact V.new _ _ _ | with_reducible refine V.other ?_ ?_ _ | with_reducible refine V.kept ?_ bc | with_reducible refine V.kept ?_ bb | with_reducible refine V.kept ?_ ba | with_reducible refine V.kept ?_ (belowA _ _) | with_reducible refine V.kept ?_ ((Below.refl _ _).drew) | (simp; done) | (simp; omega)
      · refine thenB B ?_
        repeat' first | with_reducible exact Below.refl _ _ | with_reducible refine Below.drew ?_ | with_reducible refine Below.setCell ?_ ?_ _ | with_reducible refine thenB ?_ bc | with_reducible refine thenB ?_ bb | with_reducible refine thenB ?_ ba | with_reducible refine thenB ?_ (belowA _ _) | (simp; done) | (simp; omega)
      · first | exact Nat.le_refl _ | (simp; done) | (simp; omega) | omega
  case rest =>
    clear VX VY B K
    obtain ⟨P, rfl, VA, VX, VY, B, hP⟩ := hcut
    obtain ⟨s_VX, f_VX, z_VX⟩ := VX.open
    obtain ⟨s_VY, f_VY, z_VY⟩ := VY.open
    obtain ⟨s_VA, f_VA, z_VA⟩ := VA.open
    have Bo := B
    clear s_VX f_VX z_VX s_VY f_VY z_VY s_VA f_VA z_VA
    have K : ∀ w' : World, Below wc.heap.size wc w' → (w'.cell? ⟨w.heap.size, 0, none⟩ = some (.int .i64 x.a) ∧ w'.cell? ⟨w.heap.size, 1, none⟩ = some (.int .i64 x.b) ∧ w'.cell? ⟨w.heap.size, 2, none⟩ = some (.int .i64 x.c) ∧ w'.cell? ⟨w.heap.size, 3, none⟩ = some (.int .i64 x.d) ∧ w'.cell? ⟨w.heap.size, 4, none⟩ = some (.int .i64 x.e) ∧ w'.cell? ⟨w.heap.size, 5, none⟩ = some (.int .i64 x.f) ∧ w'.cell? ⟨w.heap.size, 6, none⟩ = some (.int .i64 x.g) ∧ w'.cell? ⟨w.heap.size, 7, none⟩ = some (.int .i64 x.h) ∧ w'.cell? ⟨w.heap.size, 8, none⟩ = some (.int .i64 x.r) ∧ w'.cell? ⟨w.heap.size + 1, 0, none⟩ = some (.int .i64 y.a) ∧ w'.cell? ⟨w.heap.size + 1, 1, none⟩ = some (.int .i64 y.b) ∧ w'.cell? ⟨w.heap.size + 1, 2, none⟩ = some (.int .i64 y.c) ∧ w'.cell? ⟨w.heap.size + 1, 3, none⟩ = some (.int .i64 y.d) ∧ w'.cell? ⟨w.heap.size + 1, 4, none⟩ = some (.int .i64 y.e) ∧ w'.cell? ⟨w.heap.size + 1, 5, none⟩ = some (.int .i64 y.f) ∧ w'.cell? ⟨w.heap.size + 1, 6, none⟩ = some (.int .i64 y.g) ∧ w'.cell? ⟨w.heap.size + 1, 7, none⟩ = some (.int .i64 y.h) ∧ w'.cell? ⟨w.heap.size + 1, 8, none⟩ = some (.int .i64 y.r)) := fun w' h => ⟨(VX.kept h).2.1 0 (by simp), (VX.kept h).2.1 1 (by simp), (VX.kept h).2.1 2 (by simp), (VX.kept h).2.1 3 (by simp), (VX.kept h).2.1 4 (by simp), (VX.kept h).2.1 5 (by simp), (VX.kept h).2.1 6 (by simp), (VX.kept h).2.1 7 (by simp), (VX.kept h).2.1 8 (by simp), (VY.kept h).2.1 0 (by simp), (VY.kept h).2.1 1 (by simp), (VY.kept h).2.1 2 (by simp), (VY.kept h).2.1 3 (by simp), (VY.kept h).2.1 4 (by simp), (VY.kept h).2.1 5 (by simp), (VY.kept h).2.1 6 (by simp), (VY.kept h).2.1 7 (by simp), (VY.kept h).2.1 8 (by simp)⟩
    have K := Hid.mk K
    go_upto_region 2 with fail
    go_cut [6] (fun p wx => ∃ Q, p = .pointer (some ⟨Q, 0, none⟩) ∧ V wx Q [.int .i64 k, .int .i64 z.a, .int .i64 z.b, .int .i64 z.c, .int .i64 z.d, .int .i64 z.e, .int .i64 z.f, .int .i64 z.g, .int .i64 z.h, .int .i64 z.r] ∧ V wx (w.heap.size) [.int .i64 x.a, .int .i64 x.b, .int .i64 x.c, .int .i64 x.d, .int .i64 x.e, .int .i64 x.f, .int .i64 x.g, .int .i64 x.h, .int .i64 x.r] ∧ V wx (w.heap.size + 1) [.int .i64 y.a, .int .i64 y.b, .int .i64 y.c, .int .i64 y.d, .int .i64 y.e, .int .i64 y.f, .int .i64 y.g, .int .i64 y.h, .int .i64 y.r] ∧ V wx (P) [.int .i64 k, .int .i64 z.a, .int .i64 z.b, .int .i64 z.c, .int .i64 z.d, .int .i64 z.e, .int .i64 z.f, .int .i64 z.g, .int .i64 z.h, .int .i64 z.r] ∧ Below w.heap.size w wx ∧ wc.heap.size ≤ Q)
    case first =>
      go_region_held3 (fun w' => w'.cell? ⟨w.heap.size, 0, none⟩ = some (.int .i64 x.a) ∧ w'.cell? ⟨w.heap.size, 1, none⟩ = some (.int .i64 x.b) ∧ w'.cell? ⟨w.heap.size, 2, none⟩ = some (.int .i64 x.c) ∧ w'.cell? ⟨w.heap.size, 3, none⟩ = some (.int .i64 x.d) ∧ w'.cell? ⟨w.heap.size, 4, none⟩ = some (.int .i64 x.e) ∧ w'.cell? ⟨w.heap.size, 5, none⟩ = some (.int .i64 x.f) ∧ w'.cell? ⟨w.heap.size, 6, none⟩ = some (.int .i64 x.g) ∧ w'.cell? ⟨w.heap.size, 7, none⟩ = some (.int .i64 x.h) ∧ w'.cell? ⟨w.heap.size, 8, none⟩ = some (.int .i64 x.r) ∧ w'.cell? ⟨w.heap.size + 1, 0, none⟩ = some (.int .i64 y.a) ∧ w'.cell? ⟨w.heap.size + 1, 1, none⟩ = some (.int .i64 y.b) ∧ w'.cell? ⟨w.heap.size + 1, 2, none⟩ = some (.int .i64 y.c) ∧ w'.cell? ⟨w.heap.size + 1, 3, none⟩ = some (.int .i64 y.d) ∧ w'.cell? ⟨w.heap.size + 1, 4, none⟩ = some (.int .i64 y.e) ∧ w'.cell? ⟨w.heap.size + 1, 5, none⟩ = some (.int .i64 y.f) ∧ w'.cell? ⟨w.heap.size + 1, 6, none⟩ = some (.int .i64 y.g) ∧ w'.cell? ⟨w.heap.size + 1, 7, none⟩ = some (.int .i64 y.h) ∧ w'.cell? ⟨w.heap.size + 1, 8, none⟩ = some (.int .i64 y.r)) ((refine K.out _ ?_; (repeat' first | with_reducible exact Below.refl _ _ | with_reducible refine Below.drew ?_ | with_reducible refine Below.setCell ?_ ?_ _ | with_reducible refine thenB ?_ bc | with_reducible refine thenB ?_ bb | with_reducible refine thenB ?_ ba | with_reducible refine thenB ?_ (belowA _ _) | (simp; done) | (simp; omega)))) (first | (go_at_call 11; have hz := bb; clear hz; refine (CI.out _).mono ?_; rintro e wc ⟨rfl, bc⟩; obtain ⟨hcc, hfc⟩ := bcell bc; have hsc := bc.size; (try simp at hsc); (try have hsc0 : wc.heap.size < wc.heap.size := by omega); (try have hsc1 : wa.heap.size < wc.heap.size := by omega); (try have hsc2 : wb.heap.size < wc.heap.size := by omega)) | (go_at_call 28; have hz := ba; clear hz; refine (toSel_ok y _).mono ?_; rintro e wb ⟨rfl, bb⟩; obtain ⟨hcb, hfb⟩ := bcell bb; have hsb := bb.size; (try simp at hsb); (try have hsb0 : wc.heap.size < wb.heap.size := by omega); (try have hsb1 : wa.heap.size < wb.heap.size := by omega)) | (go_at_call 28; refine (toSel_ok x _).mono ?_; rintro e wa ⟨rfl, ba⟩; obtain ⟨hca, hfa⟩ := bcell ba; have hsa := ba.size; (try simp at hsa); (try have hsa0 : wc.heap.size < wa.heap.size := by omega)))
      all_goals
        go_wp2_with fail
        go_meet
        have hv_VX := VX.1
        have hv_VY := VY.1
        have hv_VA := VA.1
        refine ⟨_, rfl, ?_, ?_, ?_, ?_, ?_, ?_⟩
        · first | with_reducible exact V.new _ _ _ | with_reducible refine V.fill10 (z0 := .int .i64 0) (z1 := .int .i64 0) (z2 := .int .i64 0) (z3 := .int .i64 0) (z4 := .int .i64 0) (z5 := .int .i64 0) (z6 := .int .i64 0) (z7 := .int .i64 0) (z8 := .int .i64 0) (z9 := .int .i64 0) ?_ _ _ _ _ _ _ _ _ _ _
          all_goals (try (repeat' first | with_reducible exact V.new _ _ _ | with_reducible refine V.kept ?_ bc | with_reducible refine V.kept ?_ bb | with_reducible refine V.kept ?_ ba | with_reducible refine V.kept ?_ ((Below.refl _ _).drew)))
        · repeat' first | with_reducible exact VX | with_reducible exact VY | with_reducible exact VA | with_reducible exact V.new _ _ _ | with_reducible refine V.other ?_ ?_ _ | with_reducible refine V.kept ?_ bc | with_reducible refine V.kept ?_ bb | with_reducible refine V.kept ?_ ba | with_reducible refine V.kept ?_ (belowA _ _) | with_reducible refine V.kept ?_ ((Below.refl _ _).drew) | (simp; done) | (simp; omega)
        · repeat' first | with_reducible exact VX | with_reducible exact VY | with_reducible exact VA | with_reducible exact V.new _ _ _ | with_reducible refine V.other ?_ ?_ _ | with_reducible refine V.kept ?_ bc | with_reducible refine V.kept ?_ bb | with_reducible refine V.kept ?_ ba | with_reducible refine V.kept ?_ (belowA _ _) | with_reducible refine V.kept ?_ ((Below.refl _ _).drew) | (simp; done) | (simp; omega)
        · repeat' first | with_reducible exact VX | with_reducible exact VY | with_reducible exact VA | with_reducible exact V.new _ _ _ | with_reducible refine V.other ?_ ?_ _ | with_reducible refine V.kept ?_ bc | with_reducible refine V.kept ?_ bb | with_reducible refine V.kept ?_ ba | with_reducible refine V.kept ?_ (belowA _ _) | with_reducible refine V.kept ?_ ((Below.refl _ _).drew) | (simp; done) | (simp; omega)
        · refine thenB B ?_
          repeat' first | with_reducible exact Below.refl _ _ | with_reducible refine Below.drew ?_ | with_reducible refine Below.setCell ?_ ?_ _ | with_reducible refine thenB ?_ bc | with_reducible refine thenB ?_ bb | with_reducible refine thenB ?_ ba | with_reducible refine thenB ?_ (belowA _ _) | (simp; done) | (simp; omega)
        · first | exact Nat.le_refl _ | (simp; done) | (simp; omega) | omega
    case rest =>
      clear VX VY VA B K
      obtain ⟨Q, rfl, VB, VX, VY, VA, B, hQ⟩ := hcut
      obtain ⟨s_VX, f_VX, z_VX⟩ := VX.open
      obtain ⟨s_VY, f_VY, z_VY⟩ := VY.open
      obtain ⟨s_VA, f_VA, z_VA⟩ := VA.open
      obtain ⟨s_VB, f_VB, z_VB⟩ := VB.open
      have Bo := B
      go_wp2_with fail
      refine (eqSelResult_ok k z _).mono ?_
      rintro e w1 ⟨rfl, b1⟩
      clear s_VX f_VX z_VX s_VY f_VY z_VY s_VA f_VA z_VA s_VB f_VB z_VB
      have S1 := b1.size
      replace VX := VX.kept b1
      replace VY := VY.kept b1
      replace VA := VA.kept b1
      replace VB := VB.kept b1
      replace B := thenB B b1
      clear b1
      obtain ⟨s_VX, f_VX, z_VX⟩ := VX.open
      obtain ⟨s_VY, f_VY, z_VY⟩ := VY.open
      obtain ⟨s_VA, f_VA, z_VA⟩ := VA.open
      obtain ⟨s_VB, f_VB, z_VB⟩ := VB.open
      have Bo := B
      go_wp2
      go_ret
      exact ⟨rfl, Bo⟩

end Go.Proofs.Ytmbkbbephmblmaa
