/- What two selectors have in common: the model. -/
import Derived.Test.YtngkahchhioncaaDoorMtC
import Derived.Deep.DeepCutAuto
namespace Go.Proofs.YtngkahchhioncaaDoor
open Go.RowKit

theorem build_selM (x : S9) (w : World) : (Instr.build 32 #[(0, .agg #[.int .i64 x.a, .int .i64 x.b]), (1, .agg #[.int .i64 x.c, .int .i64 x.d]), (2, .agg #[.int .i64 x.e, .int .i64 x.f]), (3, .agg #[.int .i64 x.g, .int .i64 x.h]), (4, .int .i64 x.r)]).run Tryd.prog w = .ok (.agg #[.int .i64 x.a, .int .i64 x.b, .int .i64 x.c, .int .i64 x.d, .int .i64 x.e, .int .i64 x.f, .int .i64 x.g, .int .i64 x.h, .int .i64 x.r]) w := run_build w 32 _ _ (by kernel_rfl)

theorem build_selZ (w : World) : (Instr.build 32 #[]).run Tryd.prog w = .ok (.agg #[.int .i64 0, .int .i64 0, .int .i64 0, .int .i64 0, .int .i64 0, .int .i64 0, .int .i64 0, .int .i64 0, .int .i64 0]) w := run_build w 32 _ _ (by kernel_rfl)

theorem build_list (a b c d e f g h : Int) (w : World) : (Instr.buildSlice 169 4 #[(0, .agg #[.int .i64 a, .int .i64 b]), (1, .agg #[.int .i64 c, .int .i64 d]), (2, .agg #[.int .i64 e, .int .i64 f]), (3, .agg #[.int .i64 g, .int .i64 h])]).run Tryd.prog w = .ok (.slice (some ⟨w.heap.size, 0, none⟩) 4 4) (w.alloc (.cells #[.int .i64 a, .int .i64 b, .int .i64 c, .int .i64 d, .int .i64 e, .int .i64 f, .int .i64 g, .int .i64 h] 30)) := by kernel_rfl

theorem upS_no' {a0 a1 a2 a3 a4 a5 a6 a7 : Int} (h : a1 < a0 ∨ a3 < a2 ∨ a5 < a4 ∨ a7 < a6) : upS a0 a1 a2 a3 a4 a5 a6 a7 = false := by
  rw [← Bool.not_eq_true, upS_iff]; omega

set_option maxRecDepth 20000 in
set_option maxHeartbeats 8000000 in
theorem l3Common_ok (x y : S9) (m0 m1 m2 m3 m4 m5 m6 m7 r : Int) (e0 : max x.a y.a = m0) (e1 : min x.b y.b = m1) (e2 : max x.c y.c = m2) (e3 : min x.d y.d = m3) (e4 : max x.e y.e = m4) (e5 : min x.f y.f = m5) (e6 : max x.g y.g = m6) (e7 : min x.h y.h = m7) (e8 : max x.r y.r = r) (k : Int) (Z : S9) (hF : upS m0 m1 m2 m3 m4 m5 m6 m7 = false → k = 4 ∧ Z = zeroS) (hV : upS m0 m1 m2 m3 m4 m5 m6 m7 = true → (((x.r != y.r) = true ∧ (min x.r y.r != 0) = true ∧ k = 4 ∧ Z = zeroS) ∨ (((x.r != y.r) = false ∨ ((x.r != y.r) = true ∧ (min x.r y.r != 0) = false)) ∧ bareP r = false ∧ k = 0 ∧ Z = ⟨m0, m1, m2, m3, m4, m5, m6, m7, r⟩) ∨ (((x.r != y.r) = false ∨ ((x.r != y.r) = true ∧ (min x.r y.r != 0) = false)) ∧ bareP r = true ∧ (decide (0 < m4) = true ∨ (decide (0 < m4) = false ∧ decide (0 < m6) = true)) ∧ k = 4 ∧ Z = zeroS) ∨ (((x.r != y.r) = false ∨ ((x.r != y.r) = true ∧ (min x.r y.r != 0) = false)) ∧ bareP r = true ∧ decide (0 < m4) = false ∧ decide (0 < m6) = false ∧ k = 0 ∧ Z = ⟨m0, m1, m2, m3, 0, 65535, 0, 65535, r⟩))) (w : World) :
    Calls Tryd.prog 114 #[.agg #[.int .i64 x.a, .int .i64 x.b, .int .i64 x.c, .int .i64 x.d, .int .i64 x.e, .int .i64 x.f, .int .i64 x.g, .int .i64 x.h, .int .i64 x.r], .agg #[.int .i64 y.a, .int .i64 y.b, .int .i64 y.c, .int .i64 y.d, .int .i64 y.e, .int .i64 y.f, .int .i64 y.g, .int .i64 y.h, .int .i64 y.r]] w fun e w' => e = .returned (.tuple #[.agg #[.int .i64 Z.a, .int .i64 Z.b, .int .i64 Z.c, .int .i64 Z.d, .int .i64 Z.e, .int .i64 Z.f, .int .i64 Z.g, .int .i64 Z.h, .int .i64 Z.r], .int .i64 k]) ∧ Below w.heap.size w w' := by
  have qb := build_selM ⟨m0, m1, m2, m3, m4, m5, m6, m7, r⟩
  dsimp only at qb
  have qz := build_selZ
  have ql := build_list
  have C0 := Hid.mk (fun w => l3Meet_ok x.a x.b y.a y.b w)
  rw [e0, e1] at C0
  have C1 := Hid.mk (fun w => l3Meet_ok x.c x.d y.c y.d w)
  rw [e2, e3] at C1
  have C2 := Hid.mk (fun w => l3Meet_ok x.e x.f y.e y.f w)
  rw [e4, e5] at C2
  have C3 := Hid.mk (fun w => l3Meet_ok x.g x.h y.g y.h w)
  rw [e6, e7] at C3
  have C4 := Hid.mk (fun w => l3Max_ok x.r y.r w)
  rw [e8] at C4
  replace hF := Hid.mk hF
  replace hV := Hid.mk hV
  clear e0 e1 e2 e3 e4 e5 e6 e7 e8
  go_enter Tryd.func114, Tryd.ntmps114
  have B := Below.refl w.heap.size w
  replace B := thenB B (belowA w (.cells #[.int .i64 x.a, .int .i64 x.b, .int .i64 x.c, .int .i64 x.d, .int .i64 x.e, .int .i64 x.f, .int .i64 x.g, .int .i64 x.h, .int .i64 x.r] 32))
  have VX := V.new w [.int .i64 x.a, .int .i64 x.b, .int .i64 x.c, .int .i64 x.d, .int .i64 x.e, .int .i64 x.f, .int .i64 x.g, .int .i64 x.h, .int .i64 x.r] 32
  replace VX := VX.kept (belowA (w.alloc (.cells #[.int .i64 x.a, .int .i64 x.b, .int .i64 x.c, .int .i64 x.d, .int .i64 x.e, .int .i64 x.f, .int .i64 x.g, .int .i64 x.h, .int .i64 x.r] 32)) (.cells #[.int .i64 y.a, .int .i64 y.b, .int .i64 y.c, .int .i64 y.d, .int .i64 y.e, .int .i64 y.f, .int .i64 y.g, .int .i64 y.h, .int .i64 y.r] 32))
  replace B := thenB B (belowA (w.alloc (.cells #[.int .i64 x.a, .int .i64 x.b, .int .i64 x.c, .int .i64 x.d, .int .i64 x.e, .int .i64 x.f, .int .i64 x.g, .int .i64 x.h, .int .i64 x.r] 32)) (.cells #[.int .i64 y.a, .int .i64 y.b, .int .i64 y.c, .int .i64 y.d, .int .i64 y.e, .int .i64 y.f, .int .i64 y.g, .int .i64 y.h, .int .i64 y.r] 32))
  have VY : V ((w.alloc (.cells #[.int .i64 x.a, .int .i64 x.b, .int .i64 x.c, .int .i64 x.d, .int .i64 x.e, .int .i64 x.f, .int .i64 x.g, .int .i64 x.h, .int .i64 x.r] 32)).alloc (.cells #[.int .i64 y.a, .int .i64 y.b, .int .i64 y.c, .int .i64 y.d, .int .i64 y.e, .int .i64 y.f, .int .i64 y.g, .int .i64 y.h, .int .i64 y.r] 32)) (w.heap.size + 1) [.int .i64 y.a, .int .i64 y.b, .int .i64 y.c, .int .i64 y.d, .int .i64 y.e, .int .i64 y.f, .int .i64 y.g, .int .i64 y.h, .int .i64 y.r] := V.newAt _ _ _ _ (by simp)
  replace VX := VX.kept (belowA ((w.alloc (.cells #[.int .i64 x.a, .int .i64 x.b, .int .i64 x.c, .int .i64 x.d, .int .i64 x.e, .int .i64 x.f, .int .i64 x.g, .int .i64 x.h, .int .i64 x.r] 32)).alloc (.cells #[.int .i64 y.a, .int .i64 y.b, .int .i64 y.c, .int .i64 y.d, .int .i64 y.e, .int .i64 y.f, .int .i64 y.g, .int .i64 y.h, .int .i64 y.r] 32)) (.cells #[.int .i64 0, .int .i64 0, .int .i64 0, .int .i64 0, .int .i64 0, .int .i64 0, .int .i64 0, .int .i64 0, .int .i64 0] 32))
  replace VY := VY.kept (belowA ((w.alloc (.cells #[.int .i64 x.a, .int .i64 x.b, .int .i64 x.c, .int .i64 x.d, .int .i64 x.e, .int .i64 x.f, .int .i64 x.g, .int .i64 x.h, .int .i64 x.r] 32)).alloc (.cells #[.int .i64 y.a, .int .i64 y.b, .int .i64 y.c, .int .i64 y.d, .int .i64 y.e, .int .i64 y.f, .int .i64 y.g, .int .i64 y.h, .int .i64 y.r] 32)) (.cells #[.int .i64 0, .int .i64 0, .int .i64 0, .int .i64 0, .int .i64 0, .int .i64 0, .int .i64 0, .int .i64 0, .int .i64 0] 32))
  replace B := thenB B (belowA ((w.alloc (.cells #[.int .i64 x.a, .int .i64 x.b, .int .i64 x.c, .int .i64 x.d, .int .i64 x.e, .int .i64 x.f, .int .i64 x.g, .int .i64 x.h, .int .i64 x.r] 32)).alloc (.cells #[.int .i64 y.a, .int .i64 y.b, .int .i64 y.c, .int .i64 y.d, .int .i64 y.e, .int .i64 y.f, .int .i64 y.g, .int .i64 y.h, .int .i64 y.r] 32)) (.cells #[.int .i64 0, .int .i64 0, .int .i64 0, .int .i64 0, .int .i64 0, .int .i64 0, .int .i64 0, .int .i64 0, .int .i64 0] 32))
  have VR : V (((w.alloc (.cells #[.int .i64 x.a, .int .i64 x.b, .int .i64 x.c, .int .i64 x.d, .int .i64 x.e, .int .i64 x.f, .int .i64 x.g, .int .i64 x.h, .int .i64 x.r] 32)).alloc (.cells #[.int .i64 y.a, .int .i64 y.b, .int .i64 y.c, .int .i64 y.d, .int .i64 y.e, .int .i64 y.f, .int .i64 y.g, .int .i64 y.h, .int .i64 y.r] 32)).alloc (.cells #[.int .i64 0, .int .i64 0, .int .i64 0, .int .i64 0, .int .i64 0, .int .i64 0, .int .i64 0, .int .i64 0, .int .i64 0] 32)) (w.heap.size + 1 + 1) [.int .i64 0, .int .i64 0, .int .i64 0, .int .i64 0, .int .i64 0, .int .i64 0, .int .i64 0, .int .i64 0, .int .i64 0] := V.newAt _ _ _ _ (by simp)
  go_upto_region 1 with fail
  have S0 : w.heap.size + 1 + 1 < (((w.alloc (.cells #[.int .i64 x.a, .int .i64 x.b, .int .i64 x.c, .int .i64 x.d, .int .i64 x.e, .int .i64 x.f, .int .i64 x.g, .int .i64 x.h, .int .i64 x.r] 32)).alloc (.cells #[.int .i64 y.a, .int .i64 y.b, .int .i64 y.c, .int .i64 y.d, .int .i64 y.e, .int .i64 y.f, .int .i64 y.g, .int .i64 y.h, .int .i64 y.r] 32)).alloc (.cells #[.int .i64 0, .int .i64 0, .int .i64 0, .int .i64 0, .int .i64 0, .int .i64 0, .int .i64 0, .int .i64 0, .int .i64 0] 32)).heap.size := by simp
  generalize (((w.alloc (.cells #[.int .i64 x.a, .int .i64 x.b, .int .i64 x.c, .int .i64 x.d, .int .i64 x.e, .int .i64 x.f, .int .i64 x.g, .int .i64 x.h, .int .i64 x.r] 32)).alloc (.cells #[.int .i64 y.a, .int .i64 y.b, .int .i64 y.c, .int .i64 y.d, .int .i64 y.e, .int .i64 y.f, .int .i64 y.g, .int .i64 y.h, .int .i64 y.r] 32)).alloc (.cells #[.int .i64 0, .int .i64 0, .int .i64 0, .int .i64 0, .int .i64 0, .int .i64 0, .int .i64 0, .int .i64 0, .int .i64 0] 32)) = w2 at *
  have K : ∀ w' : World, Below w2.heap.size w2 w' → (w'.cell? ⟨w.heap.size, 0, none⟩ = some (.int .i64 x.a) ∧ w'.cell? ⟨w.heap.size, 1, none⟩ = some (.int .i64 x.b) ∧ w'.cell? ⟨w.heap.size, 2, none⟩ = some (.int .i64 x.c) ∧ w'.cell? ⟨w.heap.size, 3, none⟩ = some (.int .i64 x.d) ∧ w'.cell? ⟨w.heap.size, 4, none⟩ = some (.int .i64 x.e) ∧ w'.cell? ⟨w.heap.size, 5, none⟩ = some (.int .i64 x.f) ∧ w'.cell? ⟨w.heap.size, 6, none⟩ = some (.int .i64 x.g) ∧ w'.cell? ⟨w.heap.size, 7, none⟩ = some (.int .i64 x.h) ∧ w'.cell? ⟨w.heap.size, 8, none⟩ = some (.int .i64 x.r) ∧ w'.cell? ⟨w.heap.size + 1, 0, none⟩ = some (.int .i64 y.a) ∧ w'.cell? ⟨w.heap.size + 1, 1, none⟩ = some (.int .i64 y.b) ∧ w'.cell? ⟨w.heap.size + 1, 2, none⟩ = some (.int .i64 y.c) ∧ w'.cell? ⟨w.heap.size + 1, 3, none⟩ = some (.int .i64 y.d) ∧ w'.cell? ⟨w.heap.size + 1, 4, none⟩ = some (.int .i64 y.e) ∧ w'.cell? ⟨w.heap.size + 1, 5, none⟩ = some (.int .i64 y.f) ∧ w'.cell? ⟨w.heap.size + 1, 6, none⟩ = some (.int .i64 y.g) ∧ w'.cell? ⟨w.heap.size + 1, 7, none⟩ = some (.int .i64 y.h) ∧ w'.cell? ⟨w.heap.size + 1, 8, none⟩ = some (.int .i64 y.r)) := fun w' h => ⟨(VX.kept h).2.1 0 (by simp), (VX.kept h).2.1 1 (by simp), (VX.kept h).2.1 2 (by simp), (VX.kept h).2.1 3 (by simp), (VX.kept h).2.1 4 (by simp), (VX.kept h).2.1 5 (by simp), (VX.kept h).2.1 6 (by simp), (VX.kept h).2.1 7 (by simp), (VX.kept h).2.1 8 (by simp), (VY.kept h).2.1 0 (by simp), (VY.kept h).2.1 1 (by simp), (VY.kept h).2.1 2 (by simp), (VY.kept h).2.1 3 (by simp), (VY.kept h).2.1 4 (by simp), (VY.kept h).2.1 5 (by simp), (VY.kept h).2.1 6 (by simp), (VY.kept h).2.1 7 (by simp), (VY.kept h).2.1 8 (by simp)⟩
  have K := Hid.mk K
  go_cut [6] (fun p wx => ∃ P, p = .pointer (some ⟨P, 0, none⟩) ∧ V wx P [.int .i64 m0, .int .i64 m1, .int .i64 m2, .int .i64 m3, .int .i64 m4, .int .i64 m5, .int .i64 m6, .int .i64 m7, .int .i64 r] ∧ V wx w.heap.size [.int .i64 x.a, .int .i64 x.b, .int .i64 x.c, .int .i64 x.d, .int .i64 x.e, .int .i64 x.f, .int .i64 x.g, .int .i64 x.h, .int .i64 x.r] ∧ V wx (w.heap.size + 1) [.int .i64 y.a, .int .i64 y.b, .int .i64 y.c, .int .i64 y.d, .int .i64 y.e, .int .i64 y.f, .int .i64 y.g, .int .i64 y.h, .int .i64 y.r] ∧ V wx (w.heap.size + 1 + 1) [.int .i64 0, .int .i64 0, .int .i64 0, .int .i64 0, .int .i64 0, .int .i64 0, .int .i64 0, .int .i64 0, .int .i64 0] ∧ Below w.heap.size w wx ∧ w.heap.size + 1 + 1 < P)
  case first =>
    go_region_held3 (fun w' => w'.cell? ⟨w.heap.size, 0, none⟩ = some (.int .i64 x.a) ∧ w'.cell? ⟨w.heap.size, 1, none⟩ = some (.int .i64 x.b) ∧ w'.cell? ⟨w.heap.size, 2, none⟩ = some (.int .i64 x.c) ∧ w'.cell? ⟨w.heap.size, 3, none⟩ = some (.int .i64 x.d) ∧ w'.cell? ⟨w.heap.size, 4, none⟩ = some (.int .i64 x.e) ∧ w'.cell? ⟨w.heap.size, 5, none⟩ = some (.int .i64 x.f) ∧ w'.cell? ⟨w.heap.size, 6, none⟩ = some (.int .i64 x.g) ∧ w'.cell? ⟨w.heap.size, 7, none⟩ = some (.int .i64 x.h) ∧ w'.cell? ⟨w.heap.size, 8, none⟩ = some (.int .i64 x.r) ∧ w'.cell? ⟨w.heap.size + 1, 0, none⟩ = some (.int .i64 y.a) ∧ w'.cell? ⟨w.heap.size + 1, 1, none⟩ = some (.int .i64 y.b) ∧ w'.cell? ⟨w.heap.size + 1, 2, none⟩ = some (.int .i64 y.c) ∧ w'.cell? ⟨w.heap.size + 1, 3, none⟩ = some (.int .i64 y.d) ∧ w'.cell? ⟨w.heap.size + 1, 4, none⟩ = some (.int .i64 y.e) ∧ w'.cell? ⟨w.heap.size + 1, 5, none⟩ = some (.int .i64 y.f) ∧ w'.cell? ⟨w.heap.size + 1, 6, none⟩ = some (.int .i64 y.g) ∧ w'.cell? ⟨w.heap.size + 1, 7, none⟩ = some (.int .i64 y.h) ∧ w'.cell? ⟨w.heap.size + 1, 8, none⟩ = some (.int .i64 y.r)) ((refine K.out _ ?_; (repeat' first | with_reducible exact Below.refl _ _ | with_reducible refine Below.drew ?_ | with_reducible refine Below.setCell ?_ ?_ _ | with_reducible refine thenB ?_ bd | with_reducible refine thenB ?_ bc | with_reducible refine thenB ?_ bb | with_reducible refine thenB ?_ ba | with_reducible refine thenB ?_ (belowA _ _) | (simp; done) | (simp; omega)))) (first | (go_at_call 66; refine (C4.out _).mono ?_; rintro e wd ⟨rfl, rfl⟩) | (go_at_call 139; have hz := bc; clear hz; refine (C3.out _).mono ?_; rintro e wd ⟨rfl, bd⟩; obtain ⟨hcd, hfd⟩ := bcell bd; have hsd := bd.size; (try simp at hsd); (try have hsdw2 : w2.heap.size < wd.heap.size := by omega); (try have hsdwa : wa.heap.size < wd.heap.size := by omega); (try have hsdwb : wb.heap.size < wd.heap.size := by omega); (try have hsdwc : wc.heap.size < wd.heap.size := by omega)) | (go_at_call 139; have hz := bb; clear hz; refine (C2.out _).mono ?_; rintro e wc ⟨rfl, bc⟩; obtain ⟨hcc, hfc⟩ := bcell bc; have hsc := bc.size; (try simp at hsc); (try have hscw2 : w2.heap.size < wc.heap.size := by omega); (try have hscwa : wa.heap.size < wc.heap.size := by omega); (try have hscwb : wb.heap.size < wc.heap.size := by omega)) | (go_at_call 139; have hz := ba; clear hz; refine (C1.out _).mono ?_; rintro e wb ⟨rfl, bb⟩; obtain ⟨hcb, hfb⟩ := bcell bb; have hsb := bb.size; (try simp at hsb); (try have hsbw2 : w2.heap.size < wb.heap.size := by omega); (try have hsbwa : wa.heap.size < wb.heap.size := by omega)) | (go_at_call 139; refine (C0.out _).mono ?_; rintro e wa ⟨rfl, ba⟩; obtain ⟨hca, hfa⟩ := bcell ba; have hsa := ba.size; (try simp at hsa); (try have hsaw2 : w2.heap.size < wa.heap.size := by omega)))
    all_goals
      go_wp2_with fail
      go_meet
      have hvr := VR.1
      refine ⟨_, rfl, ?_, ?_, ?_, ?_, ?_, ?_⟩
      · first | with_reducible exact V.new _ _ _ | with_reducible refine V.fill9 (z0 := .int .i64 0) (z1 := .int .i64 0) (z2 := .int .i64 0) (z3 := .int .i64 0) (z4 := .int .i64 0) (z5 := .int .i64 0) (z6 := .int .i64 0) (z7 := .int .i64 0) (z8 := .int .i64 0) ?_ _ _ _ _ _ _ _ _ _
        all_goals (try (repeat' first | with_reducible exact V.new _ _ _ | with_reducible refine V.kept ?_ bd | with_reducible refine V.kept ?_ bc | with_reducible refine V.kept ?_ bb | with_reducible refine V.kept ?_ ba | with_reducible refine V.kept ?_ ((Below.refl _ _).drew)))
      · repeat' first | with_reducible exact VX | with_reducible exact VY | with_reducible exact VR | with_reducible exact V.new _ _ _ | with_reducible refine V.other ?_ ?_ _ | with_reducible refine V.kept ?_ bd | with_reducible refine V.kept ?_ bc | with_reducible refine V.kept ?_ bb | with_reducible refine V.kept ?_ ba | with_reducible refine V.kept ?_ (belowA _ _) | with_reducible refine V.kept ?_ ((Below.refl _ _).drew) | (simp; done) | (simp; omega)
      · repeat' first | with_reducible exact VX | with_reducible exact VY | with_reducible exact VR | with_reducible exact V.new _ _ _ | with_reducible refine V.other ?_ ?_ _ | with_reducible refine V.kept ?_ bd | with_reducible refine V.kept ?_ bc | with_reducible refine V.kept ?_ bb | with_reducible refine V.kept ?_ ba | with_reducible refine V.kept ?_ (belowA _ _) | with_reducible refine V.kept ?_ ((Below.refl _ _).drew) | (simp; done) | (simp; omega)
      · repeat' first | with_reducible exact VX | with_reducible exact VY | with_reducible exact VR | with_reducible exact V.new _ _ _ | with_reducible refine V.other ?_ ?_ _ | with_reducible refine V.kept ?_ bd | with_reducible refine V.kept ?_ bc | with_reducible refine V.kept ?_ bb | with_reducible refine V.kept ?_ ba | with_reducible refine V.kept ?_ (belowA _ _) | with_reducible refine V.kept ?_ ((Below.refl _ _).drew) | (simp; done) | (simp; omega)
      · refine thenB B ?_
        repeat' first | with_reducible exact Below.refl _ _ | with_reducible refine Below.drew ?_ | with_reducible refine Below.setCell ?_ ?_ _ | with_reducible refine thenB ?_ bd | with_reducible refine thenB ?_ bc | with_reducible refine thenB ?_ bb | with_reducible refine thenB ?_ ba | with_reducible refine thenB ?_ (belowA _ _) | (simp; done) | (simp; omega)
      · first | exact hvr | exact S0 | (simp; omega) | omega
  case rest =>
    clear VX VY VR B K S0
    obtain ⟨P, rfl, VP, VX, VY, VR, B, hP⟩ := hcut
    obtain ⟨s_VX, f_VX, z_VX⟩ := VX.open
    obtain ⟨s_VY, f_VY, z_VY⟩ := VY.open
    obtain ⟨s_VR, f_VR, z_VR⟩ := VR.open
    obtain ⟨s_VP, f_VP, z_VP⟩ := VP.open
    go_wp2
    replace VX := VX.kept (belowA wc (.cells #[.int .i64 m0, .int .i64 m1, .int .i64 m2, .int .i64 m3, .int .i64 m4, .int .i64 m5, .int .i64 m6, .int .i64 m7] 30))
    replace VY := VY.kept (belowA wc (.cells #[.int .i64 m0, .int .i64 m1, .int .i64 m2, .int .i64 m3, .int .i64 m4, .int .i64 m5, .int .i64 m6, .int .i64 m7] 30))
    replace VR := VR.kept (belowA wc (.cells #[.int .i64 m0, .int .i64 m1, .int .i64 m2, .int .i64 m3, .int .i64 m4, .int .i64 m5, .int .i64 m6, .int .i64 m7] 30))
    replace VP := VP.kept (belowA wc (.cells #[.int .i64 m0, .int .i64 m1, .int .i64 m2, .int .i64 m3, .int .i64 m4, .int .i64 m5, .int .i64 m6, .int .i64 m7] 30))
    replace B := thenB B (belowA wc (.cells #[.int .i64 m0, .int .i64 m1, .int .i64 m2, .int .i64 m3, .int .i64 m4, .int .i64 m5, .int .i64 m6, .int .i64 m7] 30))
    have VL := V.new wc [.int .i64 m0, .int .i64 m1, .int .i64 m2, .int .i64 m3, .int .i64 m4, .int .i64 m5, .int .i64 m6, .int .i64 m7] 30
    clear s_VX f_VX z_VX s_VY f_VY z_VY s_VR f_VR z_VR s_VP f_VP z_VP
    go_loopw [8] (fun i wr => V wr (P) [.int .i64 m0, .int .i64 m1, .int .i64 m2, .int .i64 m3, .int .i64 m4, .int .i64 m5, .int .i64 m6, .int .i64 m7, .int .i64 r] ∧ V wr (w.heap.size) [.int .i64 x.a, .int .i64 x.b, .int .i64 x.c, .int .i64 x.d, .int .i64 x.e, .int .i64 x.f, .int .i64 x.g, .int .i64 x.h, .int .i64 x.r] ∧ V wr (w.heap.size + 1) [.int .i64 y.a, .int .i64 y.b, .int .i64 y.c, .int .i64 y.d, .int .i64 y.e, .int .i64 y.f, .int .i64 y.g, .int .i64 y.h, .int .i64 y.r] ∧ V wr (w.heap.size + 1 + 1) [.int .i64 0, .int .i64 0, .int .i64 0, .int .i64 0, .int .i64 0, .int .i64 0, .int .i64 0, .int .i64 0, .int .i64 0] ∧ V wr (wc.heap.size) [.int .i64 m0, .int .i64 m1, .int .i64 m2, .int .i64 m3, .int .i64 m4, .int .i64 m5, .int .i64 m6, .int .i64 m7] ∧ Below w.heap.size w wr ∧ ((i = .int .i64 0) ∨ (i = .int .i64 1 ∧ m0 ≤ m1) ∨ (i = .int .i64 2 ∧ m0 ≤ m1 ∧ m2 ≤ m3) ∨ (i = .int .i64 3 ∧ m0 ≤ m1 ∧ m2 ≤ m3 ∧ m4 ≤ m5) ∨ (i = .int .i64 4 ∧ m0 ≤ m1 ∧ m2 ≤ m3 ∧ m4 ≤ m5 ∧ m6 ≤ m7))) (fun i _ => 4 - (intOf i).toNat)
    case atStart => exact ⟨VP, VX, VY, VR, VL, B, .inl rfl⟩
    case round =>
      clear VP VX VY VR VL B
      obtain ⟨VP, VX, VY, VR, VL, B, hrel⟩ := hrel
      rcases hrel with rfl | ⟨rfl, h0⟩ | ⟨rfl, h0, h1⟩ | ⟨rfl, h0, h1, h2⟩ | ⟨rfl, h0, h1, h2, h3⟩
      · skip
        obtain ⟨s_VL, f_VL, _⟩ := VL.open
        have gL0 := f_VL 0 (by simp)
        have gL1 := f_VL 1 (by simp)
        simp at gL0 gL1
        clear f_VL
        by_cases hc : m0 ≤ m1
        · have hd : decide (m1 < m0) = false := by simp; omega
          have HC := Hid.mk hc
          clear hc
          go_wp2
          go_quiet (fail)
          go_wp2
          go_roundw
          case rel => exact ⟨VP.kept (belowN (Below.refl _ _) _), VX.kept (belowN (Below.refl _ _) _), VY.kept (belowN (Below.refl _ _) _), VR.kept (belowN (Below.refl _ _) _), VL.kept (belowN (Below.refl _ _) _), belowN B _, .inr (.inl ⟨rfl, HC.out⟩)⟩
          case measure => simp [intOf]
        · have hd : decide (m1 < m0) = true := by simp; omega
          obtain ⟨rfl, rfl⟩ := hF.out (upS_no' (by omega))
          clear hc
          obtain ⟨s_VR, f_VR, z_VR⟩ := VR.open
          go_wp2
          go_quiet (fail)
          go_wp2
          refine bodyPost_ret (v := .tuple #[.agg #[.int .i64 0, .int .i64 0, .int .i64 0, .int .i64 0, .int .i64 0, .int .i64 0, .int .i64 0, .int .i64 0, .int .i64 0], .int .i64 4]) (by first | (simp [results, Tryd.results114, go_sem]; done) | simp [results, Tryd.results114, go_sem, f_VR]) rfl ⟨by first | rfl | rw [zeroS_is], ?_⟩
          repeat' first | with_reducible exact B | with_reducible refine Below.setCell ?_ ?_ _ | with_reducible refine Below.alloc ?_ ?_ _ | with_reducible refine Below.drew ?_ | with_reducible refine belowN ?_ _ | (simp; done) | (simp; omega)
      · skip
        have HH := Hid.mk (show m0 ≤ m1 from h0)
        clear h0
        obtain ⟨s_VL, f_VL, _⟩ := VL.open
        have gL0 := f_VL 2 (by simp)
        have gL1 := f_VL 3 (by simp)
        simp at gL0 gL1
        clear f_VL
        by_cases hc : m2 ≤ m3
        · have hd : decide (m3 < m2) = false := by simp; omega
          have HC := Hid.mk hc
          clear hc
          go_wp2
          go_quiet (fail)
          go_wp2
          go_roundw
          case rel => exact ⟨VP.kept (belowN (Below.refl _ _) _), VX.kept (belowN (Below.refl _ _) _), VY.kept (belowN (Below.refl _ _) _), VR.kept (belowN (Below.refl _ _) _), VL.kept (belowN (Below.refl _ _) _), belowN B _, .inr (.inr (.inl ⟨rfl, HH.out, HC.out⟩))⟩
          case measure => simp [intOf]
        · have hd : decide (m3 < m2) = true := by simp; omega
          obtain ⟨rfl, rfl⟩ := hF.out (upS_no' (by omega))
          clear hc
          obtain ⟨s_VR, f_VR, z_VR⟩ := VR.open
          go_wp2
          go_quiet (fail)
          go_wp2
          refine bodyPost_ret (v := .tuple #[.agg #[.int .i64 0, .int .i64 0, .int .i64 0, .int .i64 0, .int .i64 0, .int .i64 0, .int .i64 0, .int .i64 0, .int .i64 0], .int .i64 4]) (by first | (simp [results, Tryd.results114, go_sem]; done) | simp [results, Tryd.results114, go_sem, f_VR]) rfl ⟨by first | rfl | rw [zeroS_is], ?_⟩
          repeat' first | with_reducible exact B | with_reducible refine Below.setCell ?_ ?_ _ | with_reducible refine Below.alloc ?_ ?_ _ | with_reducible refine Below.drew ?_ | with_reducible refine belowN ?_ _ | (simp; done) | (simp; omega)
      · skip
        have HH := Hid.mk (show m0 ≤ m1 ∧ m2 ≤ m3 from ⟨h0, h1⟩)
        clear h0 h1
        obtain ⟨s_VL, f_VL, _⟩ := VL.open
        have gL0 := f_VL 4 (by simp)
        have gL1 := f_VL 5 (by simp)
        simp at gL0 gL1
        clear f_VL
        by_cases hc : m4 ≤ m5
        · have hd : decide (m5 < m4) = false := by simp; omega
          have HC := Hid.mk hc
          clear hc
          go_wp2
          go_quiet (fail)
          go_wp2
          go_roundw
          case rel => exact ⟨VP.kept (belowN (Below.refl _ _) _), VX.kept (belowN (Below.refl _ _) _), VY.kept (belowN (Below.refl _ _) _), VR.kept (belowN (Below.refl _ _) _), VL.kept (belowN (Below.refl _ _) _), belowN B _, .inr (.inr (.inr (.inl ⟨rfl, HH.out.1, HH.out.2, HC.out⟩)))⟩
          case measure => simp [intOf]
        · have hd : decide (m5 < m4) = true := by simp; omega
          obtain ⟨rfl, rfl⟩ := hF.out (upS_no' (by omega))
          clear hc
          obtain ⟨s_VR, f_VR, z_VR⟩ := VR.open
          go_wp2
          go_quiet (fail)
          go_wp2
          refine bodyPost_ret (v := .tuple #[.agg #[.int .i64 0, .int .i64 0, .int .i64 0, .int .i64 0, .int .i64 0, .int .i64 0, .int .i64 0, .int .i64 0, .int .i64 0], .int .i64 4]) (by first | (simp [results, Tryd.results114, go_sem]; done) | simp [results, Tryd.results114, go_sem, f_VR]) rfl ⟨by first | rfl | rw [zeroS_is], ?_⟩
          repeat' first | with_reducible exact B | with_reducible refine Below.setCell ?_ ?_ _ | with_reducible refine Below.alloc ?_ ?_ _ | with_reducible refine Below.drew ?_ | with_reducible refine belowN ?_ _ | (simp; done) | (simp; omega)
      · skip
        have HH := Hid.mk (show m0 ≤ m1 ∧ m2 ≤ m3 ∧ m4 ≤ m5 from ⟨h0, h1, h2⟩)
        clear h0 h1 h2
        obtain ⟨s_VL, f_VL, _⟩ := VL.open
        have gL0 := f_VL 6 (by simp)
        have gL1 := f_VL 7 (by simp)
        simp at gL0 gL1
        clear f_VL
        by_cases hc : m6 ≤ m7
        · have hd : decide (m7 < m6) = false := by simp; omega
          have HC := Hid.mk hc
          clear hc
          go_wp2
          go_quiet (fail)
          go_wp2
          go_roundw
          case rel => exact ⟨VP.kept (belowN (Below.refl _ _) _), VX.kept (belowN (Below.refl _ _) _), VY.kept (belowN (Below.refl _ _) _), VR.kept (belowN (Below.refl _ _) _), VL.kept (belowN (Below.refl _ _) _), belowN B _, .inr (.inr (.inr (.inr (⟨rfl, HH.out.1, HH.out.2.1, HH.out.2.2, HC.out⟩))))⟩
          case measure => simp [intOf]
        · have hd : decide (m7 < m6) = true := by simp; omega
          obtain ⟨rfl, rfl⟩ := hF.out (upS_no' (by omega))
          clear hc
          obtain ⟨s_VR, f_VR, z_VR⟩ := VR.open
          go_wp2
          go_quiet (fail)
          go_wp2
          refine bodyPost_ret (v := .tuple #[.agg #[.int .i64 0, .int .i64 0, .int .i64 0, .int .i64 0, .int .i64 0, .int .i64 0, .int .i64 0, .int .i64 0, .int .i64 0], .int .i64 4]) (by first | (simp [results, Tryd.results114, go_sem]; done) | simp [results, Tryd.results114, go_sem, f_VR]) rfl ⟨by first | rfl | rw [zeroS_is], ?_⟩
          repeat' first | with_reducible exact B | with_reducible refine Below.setCell ?_ ?_ _ | with_reducible refine Below.alloc ?_ ?_ _ | with_reducible refine Below.drew ?_ | with_reducible refine belowN ?_ _ | (simp; done) | (simp; omega)
      · skip
        have hv := hV.out (upS_iff.2 ⟨h0, h1, h2, h3⟩)
        clear h0 h1 h2 h3
        rcases hv with ⟨g1, g2, rfl, rfl⟩ | ⟨g1, g2, rfl, rfl⟩ | ⟨g1, g2, g3, rfl, rfl⟩ | ⟨g1, g2, g3, g4, rfl, rfl⟩
        · skip
          obtain ⟨s_VP, f_VP, z_VP⟩ := VP.open
          obtain ⟨s_VX, f_VX, z_VX⟩ := VX.open
          obtain ⟨s_VY, f_VY, z_VY⟩ := VY.open
          obtain ⟨s_VR, f_VR, z_VR⟩ := VR.open
          go_wp2_with (first | (go_at_call 140; refine (l3Min_ok _ _ _).mono ?_; rintro e wr ⟨rfl, rfl⟩) | (go_at_call 119; refine (specHasPorts_ok _ _).mono ?_; rintro e wr ⟨rfl, rfl⟩) | fail)
          refine bodyPost_ret (v := .tuple #[.agg #[.int .i64 0, .int .i64 0, .int .i64 0, .int .i64 0, .int .i64 0, .int .i64 0, .int .i64 0, .int .i64 0, .int .i64 0], .int .i64 4]) (by first | (simp [results, Tryd.results114, go_sem]; done) | simp [results, Tryd.results114, go_sem, f_VR]) rfl ⟨by first | rfl | rw [zeroS_is], ?_⟩
          repeat' first | with_reducible exact B | with_reducible refine Below.setCell ?_ ?_ _ | with_reducible refine Below.alloc ?_ ?_ _ | with_reducible refine Below.drew ?_ | with_reducible refine belowN ?_ _ | (simp; done) | (simp; omega)
        · skip
          rcases g1 with g1 | ⟨g1, g5⟩
          · skip
            have p0 : (r != 0) = false ∨ ((r != 0) = true ∧ portsP r = true) := by unfold bareP at g2; revert g2; cases (r != 0) <;> cases portsP r <;> simp
            clear g2
            rcases p0 with p1 | ⟨p1, p2⟩
            · skip
              obtain ⟨s_VP, f_VP, z_VP⟩ := VP.open
              obtain ⟨s_VX, f_VX, z_VX⟩ := VX.open
              obtain ⟨s_VY, f_VY, z_VY⟩ := VY.open
              obtain ⟨s_VR, f_VR, z_VR⟩ := VR.open
              go_wp2_with (first | (go_at_call 140; refine (l3Min_ok _ _ _).mono ?_; rintro e wr ⟨rfl, rfl⟩) | (go_at_call 119; refine (specHasPorts_ok _ _).mono ?_; rintro e wr ⟨rfl, rfl⟩) | fail)
              refine bodyPost_ret (v := .tuple #[.agg #[.int .i64 m0, .int .i64 m1, .int .i64 m2, .int .i64 m3, .int .i64 m4, .int .i64 m5, .int .i64 m6, .int .i64 m7, .int .i64 r], .int .i64 0]) (by first | (simp [results, Tryd.results114, go_sem]; done) | simp [results, Tryd.results114, go_sem, f_VR]) rfl ⟨by first | rfl | rw [zeroS_is], ?_⟩
              repeat' first | with_reducible exact B | with_reducible refine Below.setCell ?_ ?_ _ | with_reducible refine Below.alloc ?_ ?_ _ | with_reducible refine Below.drew ?_ | with_reducible refine belowN ?_ _ | (simp; done) | (simp; omega)
            · skip
              obtain ⟨s_VP, f_VP, z_VP⟩ := VP.open
              obtain ⟨s_VX, f_VX, z_VX⟩ := VX.open
              obtain ⟨s_VY, f_VY, z_VY⟩ := VY.open
              obtain ⟨s_VR, f_VR, z_VR⟩ := VR.open
              go_wp2_with (first | (go_at_call 140; refine (l3Min_ok _ _ _).mono ?_; rintro e wr ⟨rfl, rfl⟩) | (go_at_call 119; refine (specHasPorts_ok _ _).mono ?_; rintro e wr ⟨rfl, rfl⟩) | fail)
              refine bodyPost_ret (v := .tuple #[.agg #[.int .i64 m0, .int .i64 m1, .int .i64 m2, .int .i64 m3, .int .i64 m4, .int .i64 m5, .int .i64 m6, .int .i64 m7, .int .i64 r], .int .i64 0]) (by first | (simp [results, Tryd.results114, go_sem]; done) | simp [results, Tryd.results114, go_sem, f_VR]) rfl ⟨by first | rfl | rw [zeroS_is], ?_⟩
              repeat' first | with_reducible exact B | with_reducible refine Below.setCell ?_ ?_ _ | with_reducible refine Below.alloc ?_ ?_ _ | with_reducible refine Below.drew ?_ | with_reducible refine belowN ?_ _ | (simp; done) | (simp; omega)
          · skip
            have p0 : (r != 0) = false ∨ ((r != 0) = true ∧ portsP r = true) := by unfold bareP at g2; revert g2; cases (r != 0) <;> cases portsP r <;> simp
            clear g2
            rcases p0 with p1 | ⟨p1, p2⟩
            · skip
              obtain ⟨s_VP, f_VP, z_VP⟩ := VP.open
              obtain ⟨s_VX, f_VX, z_VX⟩ := VX.open
              obtain ⟨s_VY, f_VY, z_VY⟩ := VY.open
              obtain ⟨s_VR, f_VR, z_VR⟩ := VR.open
              go_wp2_with (first | (go_at_call 140; refine (l3Min_ok _ _ _).mono ?_; rintro e wr ⟨rfl, rfl⟩) | (go_at_call 119; refine (specHasPorts_ok _ _).mono ?_; rintro e wr ⟨rfl, rfl⟩) | fail)
              refine bodyPost_ret (v := .tuple #[.agg #[.int .i64 m0, .int .i64 m1, .int .i64 m2, .int .i64 m3, .int .i64 m4, .int .i64 m5, .int .i64 m6, .int .i64 m7, .int .i64 r], .int .i64 0]) (by first | (simp [results, Tryd.results114, go_sem]; done) | simp [results, Tryd.results114, go_sem, f_VR]) rfl ⟨by first | rfl | rw [zeroS_is], ?_⟩
              repeat' first | with_reducible exact B | with_reducible refine Below.setCell ?_ ?_ _ | with_reducible refine Below.alloc ?_ ?_ _ | with_reducible refine Below.drew ?_ | with_reducible refine belowN ?_ _ | (simp; done) | (simp; omega)
            · skip
              obtain ⟨s_VP, f_VP, z_VP⟩ := VP.open
              obtain ⟨s_VX, f_VX, z_VX⟩ := VX.open
              obtain ⟨s_VY, f_VY, z_VY⟩ := VY.open
              obtain ⟨s_VR, f_VR, z_VR⟩ := VR.open
              go_wp2_with (first | (go_at_call 140; refine (l3Min_ok _ _ _).mono ?_; rintro e wr ⟨rfl, rfl⟩) | (go_at_call 119; refine (specHasPorts_ok _ _).mono ?_; rintro e wr ⟨rfl, rfl⟩) | fail)
              refine bodyPost_ret (v := .tuple #[.agg #[.int .i64 m0, .int .i64 m1, .int .i64 m2, .int .i64 m3, .int .i64 m4, .int .i64 m5, .int .i64 m6, .int .i64 m7, .int .i64 r], .int .i64 0]) (by first | (simp [results, Tryd.results114, go_sem]; done) | simp [results, Tryd.results114, go_sem, f_VR]) rfl ⟨by first | rfl | rw [zeroS_is], ?_⟩
              repeat' first | with_reducible exact B | with_reducible refine Below.setCell ?_ ?_ _ | with_reducible refine Below.alloc ?_ ?_ _ | with_reducible refine Below.drew ?_ | with_reducible refine belowN ?_ _ | (simp; done) | (simp; omega)
        · skip
          rcases g3 with g3 | ⟨g3, g4⟩
          · skip
            rcases g1 with g1 | ⟨g1, g5⟩
            · skip
              obtain ⟨p1, p2⟩ : (r != 0) = true ∧ portsP r = false := by unfold bareP at g2; simpa using g2
              clear g2
              obtain ⟨s_VP, f_VP, z_VP⟩ := VP.open
              obtain ⟨s_VX, f_VX, z_VX⟩ := VX.open
              obtain ⟨s_VY, f_VY, z_VY⟩ := VY.open
              obtain ⟨s_VR, f_VR, z_VR⟩ := VR.open
              go_wp2_with (first | (go_at_call 140; refine (l3Min_ok _ _ _).mono ?_; rintro e wr ⟨rfl, rfl⟩) | (go_at_call 119; refine (specHasPorts_ok _ _).mono ?_; rintro e wr ⟨rfl, rfl⟩) | fail)
              refine bodyPost_ret (v := .tuple #[.agg #[.int .i64 0, .int .i64 0, .int .i64 0, .int .i64 0, .int .i64 0, .int .i64 0, .int .i64 0, .int .i64 0, .int .i64 0], .int .i64 4]) (by first | (simp [results, Tryd.results114, go_sem]; done) | simp [results, Tryd.results114, go_sem, f_VR]) rfl ⟨by first | rfl | rw [zeroS_is], ?_⟩
              repeat' first | with_reducible exact B | with_reducible refine Below.setCell ?_ ?_ _ | with_reducible refine Below.alloc ?_ ?_ _ | with_reducible refine Below.drew ?_ | with_reducible refine belowN ?_ _ | (simp; done) | (simp; omega)
            · skip
              obtain ⟨p1, p2⟩ : (r != 0) = true ∧ portsP r = false := by unfold bareP at g2; simpa using g2
              clear g2
              obtain ⟨s_VP, f_VP, z_VP⟩ := VP.open
              obtain ⟨s_VX, f_VX, z_VX⟩ := VX.open
              obtain ⟨s_VY, f_VY, z_VY⟩ := VY.open
              obtain ⟨s_VR, f_VR, z_VR⟩ := VR.open
              go_wp2_with (first | (go_at_call 140; refine (l3Min_ok _ _ _).mono ?_; rintro e wr ⟨rfl, rfl⟩) | (go_at_call 119; refine (specHasPorts_ok _ _).mono ?_; rintro e wr ⟨rfl, rfl⟩) | fail)
              refine bodyPost_ret (v := .tuple #[.agg #[.int .i64 0, .int .i64 0, .int .i64 0, .int .i64 0, .int .i64 0, .int .i64 0, .int .i64 0, .int .i64 0, .int .i64 0], .int .i64 4]) (by first | (simp [results, Tryd.results114, go_sem]; done) | simp [results, Tryd.results114, go_sem, f_VR]) rfl ⟨by first | rfl | rw [zeroS_is], ?_⟩
              repeat' first | with_reducible exact B | with_reducible refine Below.setCell ?_ ?_ _ | with_reducible refine Below.alloc ?_ ?_ _ | with_reducible refine Below.drew ?_ | with_reducible refine belowN ?_ _ | (simp; done) | (simp; omega)
          · skip
            rcases g1 with g1 | ⟨g1, g5⟩
            · skip
              obtain ⟨p1, p2⟩ : (r != 0) = true ∧ portsP r = false := by unfold bareP at g2; simpa using g2
              clear g2
              obtain ⟨s_VP, f_VP, z_VP⟩ := VP.open
              obtain ⟨s_VX, f_VX, z_VX⟩ := VX.open
              obtain ⟨s_VY, f_VY, z_VY⟩ := VY.open
              obtain ⟨s_VR, f_VR, z_VR⟩ := VR.open
              go_wp2_with (first | (go_at_call 140; refine (l3Min_ok _ _ _).mono ?_; rintro e wr ⟨rfl, rfl⟩) | (go_at_call 119; refine (specHasPorts_ok _ _).mono ?_; rintro e wr ⟨rfl, rfl⟩) | fail)
              refine bodyPost_ret (v := .tuple #[.agg #[.int .i64 0, .int .i64 0, .int .i64 0, .int .i64 0, .int .i64 0, .int .i64 0, .int .i64 0, .int .i64 0, .int .i64 0], .int .i64 4]) (by first | (simp [results, Tryd.results114, go_sem]; done) | simp [results, Tryd.results114, go_sem, f_VR]) rfl ⟨by first | rfl | rw [zeroS_is], ?_⟩
              repeat' first | with_reducible exact B | with_reducible refine Below.setCell ?_ ?_ _ | with_reducible refine Below.alloc ?_ ?_ _ | with_reducible refine Below.drew ?_ | with_reducible refine belowN ?_ _ | (simp; done) | (simp; omega)
            · skip
              obtain ⟨p1, p2⟩ : (r != 0) = true ∧ portsP r = false := by unfold bareP at g2; simpa using g2
              clear g2
              obtain ⟨s_VP, f_VP, z_VP⟩ := VP.open
              obtain ⟨s_VX, f_VX, z_VX⟩ := VX.open
              obtain ⟨s_VY, f_VY, z_VY⟩ := VY.open
              obtain ⟨s_VR, f_VR, z_VR⟩ := VR.open
              go_wp2_with (first | (go_at_call 140; refine (l3Min_ok _ _ _).mono ?_; rintro e wr ⟨rfl, rfl⟩) | (go_at_call 119; refine (specHasPorts_ok _ _).mono ?_; rintro e wr ⟨rfl, rfl⟩) | fail)
              refine bodyPost_ret (v := .tuple #[.agg #[.int .i64 0, .int .i64 0, .int .i64 0, .int .i64 0, .int .i64 0, .int .i64 0, .int .i64 0, .int .i64 0, .int .i64 0], .int .i64 4]) (by first | (simp [results, Tryd.results114, go_sem]; done) | simp [results, Tryd.results114, go_sem, f_VR]) rfl ⟨by first | rfl | rw [zeroS_is], ?_⟩
              repeat' first | with_reducible exact B | with_reducible refine Below.setCell ?_ ?_ _ | with_reducible refine Below.alloc ?_ ?_ _ | with_reducible refine Below.drew ?_ | with_reducible refine belowN ?_ _ | (simp; done) | (simp; omega)
        · skip
          rcases g1 with g1 | ⟨g1, g5⟩
          · skip
            obtain ⟨p1, p2⟩ : (r != 0) = true ∧ portsP r = false := by unfold bareP at g2; simpa using g2
            clear g2
            obtain ⟨s_VP, f_VP, z_VP⟩ := VP.open
            obtain ⟨s_VX, f_VX, z_VX⟩ := VX.open
            obtain ⟨s_VY, f_VY, z_VY⟩ := VY.open
            obtain ⟨s_VR, f_VR, z_VR⟩ := VR.open
            go_wp2_with (first | (go_at_call 140; refine (l3Min_ok _ _ _).mono ?_; rintro e wr ⟨rfl, rfl⟩) | (go_at_call 119; refine (specHasPorts_ok _ _).mono ?_; rintro e wr ⟨rfl, rfl⟩) | fail)
            refine (l3All_ok _).mono ?_
            rintro e w11 ⟨rfl, b11⟩
            clear s_VP f_VP z_VP s_VX f_VX z_VX s_VY f_VY z_VY s_VR f_VR z_VR
            have S11 := b11.size
            replace VP := VP.kept b11
            replace VX := VX.kept b11
            replace VY := VY.kept b11
            replace VR := VR.kept b11
            replace B := thenB B b11
            clear b11
            obtain ⟨s_VP, f_VP, z_VP⟩ := VP.open
            obtain ⟨s_VX, f_VX, z_VX⟩ := VX.open
            obtain ⟨s_VY, f_VY, z_VY⟩ := VY.open
            obtain ⟨s_VR, f_VR, z_VR⟩ := VR.open
            have Bo := B
            replace VP := VP.set (i := 4) (by simp) (.int .i64 0)
            simp only [List.set_cons_zero, List.set_cons_succ] at VP
            replace VX := VX.other (p := ⟨P, 4, none⟩) (by (try simp); (try omega)) (.int .i64 0)
            replace VY := VY.other (p := ⟨P, 4, none⟩) (by (try simp); (try omega)) (.int .i64 0)
            replace VR := VR.other (p := ⟨P, 4, none⟩) (by (try simp); (try omega)) (.int .i64 0)
            replace B := B.setCell (p := ⟨P, 4, none⟩) (by (try simp); (try omega)) (.int .i64 0)
            replace VP := VP.set (i := 5) (by simp) (.int .i64 65535)
            simp only [List.set_cons_zero, List.set_cons_succ] at VP
            replace VX := VX.other (p := ⟨P, 5, none⟩) (by (try simp); (try omega)) (.int .i64 65535)
            replace VY := VY.other (p := ⟨P, 5, none⟩) (by (try simp); (try omega)) (.int .i64 65535)
            replace VR := VR.other (p := ⟨P, 5, none⟩) (by (try simp); (try omega)) (.int .i64 65535)
            replace B := B.setCell (p := ⟨P, 5, none⟩) (by (try simp); (try omega)) (.int .i64 65535)
            go_wp2_with fail
            refine (l3All_ok _).mono ?_
            rintro e w12 ⟨rfl, b12⟩
            clear s_VP f_VP z_VP s_VX f_VX z_VX s_VY f_VY z_VY s_VR f_VR z_VR
            have S12 := b12.size
            simp only [World.size_setCell] at S12
            replace VP := VP.kept b12
            replace VX := VX.kept b12
            replace VY := VY.kept b12
            replace VR := VR.kept b12
            replace B := thenB B b12
            clear b12
            obtain ⟨s_VP, f_VP, z_VP⟩ := VP.open
            obtain ⟨s_VX, f_VX, z_VX⟩ := VX.open
            obtain ⟨s_VY, f_VY, z_VY⟩ := VY.open
            obtain ⟨s_VR, f_VR, z_VR⟩ := VR.open
            have Bo := B
            go_wp2
            refine bodyPost_ret (v := .tuple #[.agg #[.int .i64 m0, .int .i64 m1, .int .i64 m2, .int .i64 m3, .int .i64 0, .int .i64 65535, .int .i64 0, .int .i64 65535, .int .i64 r], .int .i64 0]) (by first | (simp [results, Tryd.results114, go_sem]; done) | simp [results, Tryd.results114, go_sem, f_VR]) rfl ⟨by first | rfl | rw [zeroS_is], ?_⟩
            repeat' first | with_reducible exact B | with_reducible refine Below.setCell ?_ ?_ _ | with_reducible refine Below.alloc ?_ ?_ _ | with_reducible refine Below.drew ?_ | with_reducible refine belowN ?_ _ | (simp; done) | (simp; omega)
          · skip
            obtain ⟨p1, p2⟩ : (r != 0) = true ∧ portsP r = false := by unfold bareP at g2; simpa using g2
            clear g2
            obtain ⟨s_VP, f_VP, z_VP⟩ := VP.open
            obtain ⟨s_VX, f_VX, z_VX⟩ := VX.open
            obtain ⟨s_VY, f_VY, z_VY⟩ := VY.open
            obtain ⟨s_VR, f_VR, z_VR⟩ := VR.open
            go_wp2_with (first | (go_at_call 140; refine (l3Min_ok _ _ _).mono ?_; rintro e wr ⟨rfl, rfl⟩) | (go_at_call 119; refine (specHasPorts_ok _ _).mono ?_; rintro e wr ⟨rfl, rfl⟩) | fail)
            refine (l3All_ok _).mono ?_
            rintro e w11 ⟨rfl, b11⟩
            clear s_VP f_VP z_VP s_VX f_VX z_VX s_VY f_VY z_VY s_VR f_VR z_VR
            have S11 := b11.size
            replace VP := VP.kept b11
            replace VX := VX.kept b11
            replace VY := VY.kept b11
            replace VR := VR.kept b11
            replace B := thenB B b11
            clear b11
            obtain ⟨s_VP, f_VP, z_VP⟩ := VP.open
            obtain ⟨s_VX, f_VX, z_VX⟩ := VX.open
            obtain ⟨s_VY, f_VY, z_VY⟩ := VY.open
            obtain ⟨s_VR, f_VR, z_VR⟩ := VR.open
            have Bo := B
            replace VP := VP.set (i := 4) (by simp) (.int .i64 0)
            simp only [List.set_cons_zero, List.set_cons_succ] at VP
            replace VX := VX.other (p := ⟨P, 4, none⟩) (by (try simp); (try omega)) (.int .i64 0)
            replace VY := VY.other (p := ⟨P, 4, none⟩) (by (try simp); (try omega)) (.int .i64 0)
            replace VR := VR.other (p := ⟨P, 4, none⟩) (by (try simp); (try omega)) (.int .i64 0)
            replace B := B.setCell (p := ⟨P, 4, none⟩) (by (try simp); (try omega)) (.int .i64 0)
            replace VP := VP.set (i := 5) (by simp) (.int .i64 65535)
            simp only [List.set_cons_zero, List.set_cons_succ] at VP
            replace VX := VX.other (p := ⟨P, 5, none⟩) (by (try simp); (try omega)) (.int .i64 65535)
            replace VY := VY.other (p := ⟨P, 5, none⟩) (by (try simp); (try omega)) (.int .i64 65535)
            replace VR := VR.other (p := ⟨P, 5, none⟩) (by (try simp); (try omega)) (.int .i64 65535)
            replace B := B.setCell (p := ⟨P, 5, none⟩) (by (try simp); (try omega)) (.int .i64 65535)
            go_wp2_with fail
            refine (l3All_ok _).mono ?_
            rintro e w12 ⟨rfl, b12⟩
            clear s_VP f_VP z_VP s_VX f_VX z_VX s_VY f_VY z_VY s_VR f_VR z_VR
            have S12 := b12.size
            simp only [World.size_setCell] at S12
            replace VP := VP.kept b12
            replace VX := VX.kept b12
            replace VY := VY.kept b12
            replace VR := VR.kept b12
            replace B := thenB B b12
            clear b12
            obtain ⟨s_VP, f_VP, z_VP⟩ := VP.open
            obtain ⟨s_VX, f_VX, z_VX⟩ := VX.open
            obtain ⟨s_VY, f_VY, z_VY⟩ := VY.open
            obtain ⟨s_VR, f_VR, z_VR⟩ := VR.open
            have Bo := B
            go_wp2
            refine bodyPost_ret (v := .tuple #[.agg #[.int .i64 m0, .int .i64 m1, .int .i64 m2, .int .i64 m3, .int .i64 0, .int .i64 65535, .int .i64 0, .int .i64 65535, .int .i64 r], .int .i64 0]) (by first | (simp [results, Tryd.results114, go_sem]; done) | simp [results, Tryd.results114, go_sem, f_VR]) rfl ⟨by first | rfl | rw [zeroS_is], ?_⟩
            repeat' first | with_reducible exact B | with_reducible refine Below.setCell ?_ ?_ _ | with_reducible refine Below.alloc ?_ ?_ _ | with_reducible refine Below.drew ?_ | with_reducible refine belowN ?_ _ | (simp; done) | (simp; omega)

end Go.Proofs.YtngkahchhioncaaDoor
