/- The law on 'WeakerSuite': its walk. -/
import Derived.Test.YthaaompkcomfcaaPsG
import Derived.Test.YthaaompkcomfcaaSuiteH
namespace Go.Proofs.Ythaaompkcomfcaa
open Go.RowKit

set_option maxRecDepth 20000 in
set_option maxHeartbeats 8000000 in
theorem xSwk_walk (x : Su) (y : Su) (w : World) :
    Calls Try.prog 8 #[.agg #[.int .i64 x.c, .int .i64 x.b, .int .i64 x.m, .int .i64 x.g], .agg #[.int .i64 y.c, .int .i64 y.b, .int .i64 y.m, .int .i64 y.g]] w fun e w' => e = .returned (.bool true) ∧ Below w.heap.size w w' := by
  have CS := Hid.mk (fun w => specWeaker_ok x y w)
  have CI := Hid.mk (fun w => implWeaker_ok x y w)
  generalize wkB x y = p at *
  go_enter Try.func8, Try.ntmps8
  have B := Below.refl w.heap.size w
  replace B := thenB B (belowA w (.cells #[.int .i64 x.c, .int .i64 x.b, .int .i64 x.m, .int .i64 x.g] 41))
  have VA := V.new w [.int .i64 x.c, .int .i64 x.b, .int .i64 x.m, .int .i64 x.g] 41
  replace VA := VA.kept (belowA (w.alloc (.cells #[.int .i64 x.c, .int .i64 x.b, .int .i64 x.m, .int .i64 x.g] 41)) (.cells #[.int .i64 y.c, .int .i64 y.b, .int .i64 y.m, .int .i64 y.g] 41))
  replace B := thenB B (belowA (w.alloc (.cells #[.int .i64 x.c, .int .i64 x.b, .int .i64 x.m, .int .i64 x.g] 41)) (.cells #[.int .i64 y.c, .int .i64 y.b, .int .i64 y.m, .int .i64 y.g] 41))
  have VB : V ((w.alloc (.cells #[.int .i64 x.c, .int .i64 x.b, .int .i64 x.m, .int .i64 x.g] 41)).alloc (.cells #[.int .i64 y.c, .int .i64 y.b, .int .i64 y.m, .int .i64 y.g] 41)) (w.heap.size + 1) [.int .i64 y.c, .int .i64 y.b, .int .i64 y.m, .int .i64 y.g] := V.newAt _ _ _ _ (by simp)
  obtain ⟨s_VA, f_VA, z_VA⟩ := VA.open
  obtain ⟨s_VB, f_VB, z_VB⟩ := VB.open
  have Bo := B
  clear s_VA f_VA z_VA s_VB f_VB z_VB
  have K : ∀ w' : World, Below ((w.alloc (.cells #[.int .i64 x.c, .int .i64 x.b, .int .i64 x.m, .int .i64 x.g] 41)).alloc (.cells #[.int .i64 y.c, .int .i64 y.b, .int .i64 y.m, .int .i64 y.g] 41)).heap.size ((w.alloc (.cells #[.int .i64 x.c, .int .i64 x.b, .int .i64 x.m, .int .i64 x.g] 41)).alloc (.cells #[.int .i64 y.c, .int .i64 y.b, .int .i64 y.m, .int .i64 y.g] 41)) w' → (w'.cell? ⟨w.heap.size, 0, none⟩ = some (.int .i64 x.c) ∧ w'.cell? ⟨w.heap.size, 1, none⟩ = some (.int .i64 x.b) ∧ w'.cell? ⟨w.heap.size, 2, none⟩ = some (.int .i64 x.m) ∧ w'.cell? ⟨w.heap.size, 3, none⟩ = some (.int .i64 x.g) ∧ w'.cell? ⟨w.heap.size + 1, 0, none⟩ = some (.int .i64 y.c) ∧ w'.cell? ⟨w.heap.size + 1, 1, none⟩ = some (.int .i64 y.b) ∧ w'.cell? ⟨w.heap.size + 1, 2, none⟩ = some (.int .i64 y.m) ∧ w'.cell? ⟨w.heap.size + 1, 3, none⟩ = some (.int .i64 y.g)) := fun w' h => ⟨(VA.kept h).2.1 0 (by simp), (VA.kept h).2.1 1 (by simp), (VA.kept h).2.1 2 (by simp), (VA.kept h).2.1 3 (by simp), (VB.kept h).2.1 0 (by simp), (VB.kept h).2.1 1 (by simp), (VB.kept h).2.1 2 (by simp), (VB.kept h).2.1 3 (by simp)⟩
  have K := Hid.mk K
  go_wp2_with fail
  refine wp_region_held_drew (S := (fun w' => w'.cell? ⟨w.heap.size, 0, none⟩ = some (.int .i64 x.c) ∧ w'.cell? ⟨w.heap.size, 1, none⟩ = some (.int .i64 x.b) ∧ w'.cell? ⟨w.heap.size, 2, none⟩ = some (.int .i64 x.m) ∧ w'.cell? ⟨w.heap.size, 3, none⟩ = some (.int .i64 x.g) ∧ w'.cell? ⟨w.heap.size + 1, 0, none⟩ = some (.int .i64 y.c) ∧ w'.cell? ⟨w.heap.size + 1, 1, none⟩ = some (.int .i64 y.b) ∧ w'.cell? ⟨w.heap.size + 1, 2, none⟩ = some (.int .i64 y.m) ∧ w'.cell? ⟨w.heap.size + 1, 3, none⟩ = some (.int .i64 y.g))) (by kernel_rfl) (K.out _ (Below.refl _ _).drew) (fun hHeld => ?_)
  refine wpAnyH_take (i := 0) (oi := _) (v := ?vz1u1) rfl (by kernel_rfl) (by kernel_rfl) (by kernel_rfl) (fun _ _ _ h => h) (Or.inl ⟨by kernel_rfl, ?hyz1u1⟩) hHeld ?restz1u1
  case hyz1u1 => (intro w hSw; (try dsimp only at hSw); go_simp; first | done | with_reducible rfl)
  try simp only [Act.put, List.getElem_toArray, List.getElem_cons_zero, List.setIfInBounds_toArray, List.set_cons_zero, List.set_cons_succ]
  refine wpAnyH_take (i := 2) (oi := _) (v := ?vz1u2) rfl (by kernel_rfl) (by kernel_rfl) (by kernel_rfl) (fun _ _ _ h => h) (Or.inl ⟨by kernel_rfl, ?hyz1u2⟩) hHeld ?restz1u2
  case hyz1u2 => (intro w hSw; (try dsimp only at hSw); go_simp; first | done | with_reducible rfl)
  try simp only [Act.put, List.getElem_toArray, List.getElem_cons_zero, List.getElem_cons_succ, List.setIfInBounds_toArray, List.set_cons_zero, List.set_cons_succ]
  refine wpAnyH_ready (rs := [1]) (by kernel_rfl) (by simp) ?_
  refine AllReadyH.cons (o := _) rfl (fun K0 hK0 => ?_) AllReadyH.nil
  go_simp
  go_at_call 22
  refine (toSuite_ok x _).mono ?_
  rintro e wz1v3 ⟨rfl, bz1v3⟩
  refine hK0.out _ _ (K.out _ (thenB (Below.refl _ _).drew bz1v3)) (fun hHeld => ?_)
  clear hK0 K0
  try simp only [Act.put, List.getElem_toArray, List.getElem_cons_zero, List.getElem_cons_succ, List.setIfInBounds_toArray, List.set_cons_zero, List.set_cons_succ]
  refine wpAnyH_ready (rs := [3]) (by kernel_rfl) (by simp) ?_
  refine AllReadyH.cons (o := _) rfl (fun K0 hK0 => ?_) AllReadyH.nil
  go_simp
  go_at_call 22
  refine (toSuite_ok y _).mono ?_
  rintro e wz1v4 ⟨rfl, bz1v4⟩
  refine hK0.out _ _ (K.out _ (thenB (thenB (Below.refl _ _).drew bz1v3) bz1v4)) (fun hHeld => ?_)
  clear hK0 K0
  try simp only [Act.put, List.getElem_toArray, List.getElem_cons_zero, List.getElem_cons_succ, List.setIfInBounds_toArray, List.set_cons_zero, List.set_cons_succ]
  refine wpAnyH_ready (rs := [4]) (by kernel_rfl) (by simp) ?_
  refine AllReadyH.cons (o := _) rfl (fun K0 hK0 => ?_) AllReadyH.nil
  go_simp
  go_at_call 35
  refine (CS.out _).mono ?_
  rintro e wz1v5 ⟨rfl, bz1v5⟩
  refine hK0.out _ _ (K.out _ (thenB (thenB (thenB (Below.refl _ _).drew bz1v3) bz1v4) bz1v5)) (fun hHeld => ?_)
  clear hK0 K0
  try simp only [Act.put, List.getElem_toArray, List.getElem_cons_zero, List.getElem_cons_succ, List.setIfInBounds_toArray, List.set_cons_zero, List.set_cons_succ]
  refine wpAnyH_take (i := 5) (oi := _) (v := ?vz1u6) rfl (by kernel_rfl) (by kernel_rfl) (by kernel_rfl) (fun _ _ _ h => h) (Or.inl ⟨by kernel_rfl, ?hyz1u6⟩) hHeld ?restz1u6
  case hyz1u6 => (intro w hSw; (try dsimp only at hSw); go_simp; first | done | with_reducible rfl)
  try simp only [Act.put, List.getElem_toArray, List.getElem_cons_zero, List.getElem_cons_succ, List.setIfInBounds_toArray, List.set_cons_zero, List.set_cons_succ]
  refine wpAnyH_done (by kernel_rfl) ?_ _
  clear K hHeld
  have bacc : Below ((w.alloc (.cells #[.int .i64 x.c, .int .i64 x.b, .int .i64 x.m, .int .i64 x.g] 41)).alloc (.cells #[.int .i64 y.c, .int .i64 y.b, .int .i64 y.m, .int .i64 y.g] 41)).heap.size ((w.alloc (.cells #[.int .i64 x.c, .int .i64 x.b, .int .i64 x.m, .int .i64 x.g] 41)).alloc (.cells #[.int .i64 y.c, .int .i64 y.b, .int .i64 y.m, .int .i64 y.g] 41)) wz1v5 := (thenB (thenB (thenB (Below.refl _ _).drew bz1v3) bz1v4) bz1v5)
  replace VA := VA.kept bacc
  replace VB := VB.kept bacc
  replace B := thenB B bacc
  have Sz1 := (bacc).size
  clear bacc
  simp only [World.size_alloc] at Sz1
  clear bz1v3 bz1v4 bz1v5
  obtain ⟨s_VA, f_VA, z_VA⟩ := VA.open
  obtain ⟨s_VB, f_VB, z_VB⟩ := VB.open
  have Bo := B
  clear s_VA f_VA z_VA s_VB f_VB z_VB
  have K : ∀ w' : World, Below wz1v5.heap.size wz1v5 w' → (w'.cell? ⟨w.heap.size, 0, none⟩ = some (.int .i64 x.c) ∧ w'.cell? ⟨w.heap.size, 1, none⟩ = some (.int .i64 x.b) ∧ w'.cell? ⟨w.heap.size, 2, none⟩ = some (.int .i64 x.m) ∧ w'.cell? ⟨w.heap.size, 3, none⟩ = some (.int .i64 x.g) ∧ w'.cell? ⟨w.heap.size + 1, 0, none⟩ = some (.int .i64 y.c) ∧ w'.cell? ⟨w.heap.size + 1, 1, none⟩ = some (.int .i64 y.b) ∧ w'.cell? ⟨w.heap.size + 1, 2, none⟩ = some (.int .i64 y.m) ∧ w'.cell? ⟨w.heap.size + 1, 3, none⟩ = some (.int .i64 y.g)) := fun w' h => ⟨(VA.kept h).2.1 0 (by simp), (VA.kept h).2.1 1 (by simp), (VA.kept h).2.1 2 (by simp), (VA.kept h).2.1 3 (by simp), (VB.kept h).2.1 0 (by simp), (VB.kept h).2.1 1 (by simp), (VB.kept h).2.1 2 (by simp), (VB.kept h).2.1 3 (by simp)⟩
  have K := Hid.mk K
  go_wp2_with fail
  refine wp_region_held_drew (S := (fun w' => w'.cell? ⟨w.heap.size, 0, none⟩ = some (.int .i64 x.c) ∧ w'.cell? ⟨w.heap.size, 1, none⟩ = some (.int .i64 x.b) ∧ w'.cell? ⟨w.heap.size, 2, none⟩ = some (.int .i64 x.m) ∧ w'.cell? ⟨w.heap.size, 3, none⟩ = some (.int .i64 x.g) ∧ w'.cell? ⟨w.heap.size + 1, 0, none⟩ = some (.int .i64 y.c) ∧ w'.cell? ⟨w.heap.size + 1, 1, none⟩ = some (.int .i64 y.b) ∧ w'.cell? ⟨w.heap.size + 1, 2, none⟩ = some (.int .i64 y.m) ∧ w'.cell? ⟨w.heap.size + 1, 3, none⟩ = some (.int .i64 y.g))) (by kernel_rfl) (K.out _ (Below.refl _ _).drew) (fun hHeld => ?_)
  refine wpAnyH_take (i := 0) (oi := _) (v := ?vz2u1) rfl (by kernel_rfl) (by kernel_rfl) (by kernel_rfl) (fun _ _ _ h => h) (Or.inl ⟨by kernel_rfl, ?hyz2u1⟩) hHeld ?restz2u1
  case hyz2u1 => (intro w hSw; (try dsimp only at hSw); go_simp; first | done | with_reducible rfl)
  try simp only [Act.put, List.getElem_toArray, List.getElem_cons_zero, List.setIfInBounds_toArray, List.set_cons_zero, List.set_cons_succ]
  refine wpAnyH_take (i := 2) (oi := _) (v := ?vz2u2) rfl (by kernel_rfl) (by kernel_rfl) (by kernel_rfl) (fun _ _ _ h => h) (Or.inl ⟨by kernel_rfl, ?hyz2u2⟩) hHeld ?restz2u2
  case hyz2u2 => (intro w hSw; (try dsimp only at hSw); go_simp; first | done | with_reducible rfl)
  try simp only [Act.put, List.getElem_toArray, List.getElem_cons_zero, List.getElem_cons_succ, List.setIfInBounds_toArray, List.set_cons_zero, List.set_cons_succ]
  refine wpAnyH_ready (rs := [1]) (by kernel_rfl) (by simp) ?_
  refine AllReadyH.cons (o := _) rfl (fun K0 hK0 => ?_) AllReadyH.nil
  go_simp
  go_at_call 22
  refine (toSuite_ok x _).mono ?_
  rintro e wz2v3 ⟨rfl, bz2v3⟩
  refine hK0.out _ _ (K.out _ (thenB (Below.refl _ _).drew bz2v3)) (fun hHeld => ?_)
  clear hK0 K0
  try simp only [Act.put, List.getElem_toArray, List.getElem_cons_zero, List.getElem_cons_succ, List.setIfInBounds_toArray, List.set_cons_zero, List.set_cons_succ]
  refine wpAnyH_ready (rs := [3]) (by kernel_rfl) (by simp) ?_
  refine AllReadyH.cons (o := _) rfl (fun K0 hK0 => ?_) AllReadyH.nil
  go_simp
  go_at_call 22
  refine (toSuite_ok y _).mono ?_
  rintro e wz2v4 ⟨rfl, bz2v4⟩
  refine hK0.out _ _ (K.out _ (thenB (thenB (Below.refl _ _).drew bz2v3) bz2v4)) (fun hHeld => ?_)
  clear hK0 K0
  try simp only [Act.put, List.getElem_toArray, List.getElem_cons_zero, List.getElem_cons_succ, List.setIfInBounds_toArray, List.set_cons_zero, List.set_cons_succ]
  refine wpAnyH_ready (rs := [4]) (by kernel_rfl) (by simp) ?_
  refine AllReadyH.cons (o := _) rfl (fun K0 hK0 => ?_) AllReadyH.nil
  go_simp
  go_at_call 18
  refine (CI.out _).mono ?_
  rintro e wz2v5 ⟨rfl, bz2v5⟩
  refine hK0.out _ _ (K.out _ (thenB (thenB (thenB (Below.refl _ _).drew bz2v3) bz2v4) bz2v5)) (fun hHeld => ?_)
  clear hK0 K0
  try simp only [Act.put, List.getElem_toArray, List.getElem_cons_zero, List.getElem_cons_succ, List.setIfInBounds_toArray, List.set_cons_zero, List.set_cons_succ]
  refine wpAnyH_take (i := 5) (oi := _) (v := ?vz2u6) rfl (by kernel_rfl) (by kernel_rfl) (by kernel_rfl) (fun _ _ _ h => h) (Or.inl ⟨by kernel_rfl, ?hyz2u6⟩) hHeld ?restz2u6
  case hyz2u6 => (intro w hSw; (try dsimp only at hSw); go_simp; first | done | with_reducible rfl)
  try simp only [Act.put, List.getElem_toArray, List.getElem_cons_zero, List.getElem_cons_succ, List.setIfInBounds_toArray, List.set_cons_zero, List.set_cons_succ]
  refine wpAnyH_done (by kernel_rfl) ?_ _
  clear K hHeld
  have bacc : Below wz1v5.heap.size wz1v5 wz2v5 := (thenB (thenB (thenB (Below.refl _ _).drew bz2v3) bz2v4) bz2v5)
  replace VA := VA.kept bacc
  replace VB := VB.kept bacc
  replace B := thenB B bacc
  have Sz2 := (bacc).size
  clear bacc
  clear bz2v3 bz2v4 bz2v5
  obtain ⟨s_VA, f_VA, z_VA⟩ := VA.open
  obtain ⟨s_VB, f_VB, z_VB⟩ := VB.open
  have Bo := B
  have hp : (p != p) = false := by simp
  go_wp2
  go_ret
  exact ⟨rfl, Bo⟩
  
  end Go.Proofs.Ythaaompkcomfcaa
  