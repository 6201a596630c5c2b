/- Suites held against one another by their rank; weaker; the place of a suite: program and model. -/
import Derived.Test.YthaaompkcomfcaaPsF
import Derived.Test.YthaaompkcomfcaaPsE
import Derived.Test.YthaaompkcomfcaaFill
import Derived.Deep.DeepCutAuto
import Derived.Deep.CutBlock
namespace Go.Proofs.Ythaaompkcomfcaa
open Go.RowKit

theorem compare_ok2 (x y : Su) (hx : okSu x = true) (hy : okSu y = true) (w : World) :
    Calls Try.prog 65 #[.float .f64 (rkB x), .float .f64 (rkB y)] w fun e w' => e = .returned (.int .i64 (cmpI (rkF x) (rkF y))) ∧ Below w.heap.size w w' :=
  (compare_ok x y hx hy w).mono fun _ _ ⟨h1, h2⟩ => ⟨h1, h2 ▸ Below.refl _ _⟩

set_option maxRecDepth 20000 in
set_option maxHeartbeats 2000000 in
theorem compareRanks_ok (x y : Su) (hx : okSu x = true) (hy : okSu y = true) (w : World) :
    Calls Try.prog 51 #[.agg #[.int .i64 x.c, .int .i64 x.b, .int .i64 x.m, .int .i64 x.g], .agg #[.int .i64 y.c, .int .i64 y.b, .int .i64 y.m, .int .i64 y.g]] w fun e w' => e = .returned (.int .i64 (cmpI (rkF x) (rkF y))) ∧ Below w.heap.size w w' := by
  go_enter Try.func51, Try.ntmps51
  have B := Below.refl w.heap.size w
  replace B := thenB B (belowA w (.cells #[.int .i64 x.c, .int .i64 x.b, .int .i64 x.m, .int .i64 x.g] 28))
  have VA := V.new w [.int .i64 x.c, .int .i64 x.b, .int .i64 x.m, .int .i64 x.g] 28
  replace VA := VA.kept (belowA (w.alloc (.cells #[.int .i64 x.c, .int .i64 x.b, .int .i64 x.m, .int .i64 x.g] 28)) (.cells #[.int .i64 y.c, .int .i64 y.b, .int .i64 y.m, .int .i64 y.g] 28))
  replace B := thenB B (belowA (w.alloc (.cells #[.int .i64 x.c, .int .i64 x.b, .int .i64 x.m, .int .i64 x.g] 28)) (.cells #[.int .i64 y.c, .int .i64 y.b, .int .i64 y.m, .int .i64 y.g] 28))
  have VB : V ((w.alloc (.cells #[.int .i64 x.c, .int .i64 x.b, .int .i64 x.m, .int .i64 x.g] 28)).alloc (.cells #[.int .i64 y.c, .int .i64 y.b, .int .i64 y.m, .int .i64 y.g] 28)) (w.heap.size + 1) [.int .i64 y.c, .int .i64 y.b, .int .i64 y.m, .int .i64 y.g] := V.newAt _ _ _ _ (by simp)
  obtain ⟨s_VA, f_VA, z_VA⟩ := VA.open
  obtain ⟨s_VB, f_VB, z_VB⟩ := VB.open
  have Bo := B
  clear s_VA f_VA z_VA s_VB f_VB z_VB
  have K : ∀ w' : World, Below ((w.alloc (.cells #[.int .i64 x.c, .int .i64 x.b, .int .i64 x.m, .int .i64 x.g] 28)).alloc (.cells #[.int .i64 y.c, .int .i64 y.b, .int .i64 y.m, .int .i64 y.g] 28)).heap.size ((w.alloc (.cells #[.int .i64 x.c, .int .i64 x.b, .int .i64 x.m, .int .i64 x.g] 28)).alloc (.cells #[.int .i64 y.c, .int .i64 y.b, .int .i64 y.m, .int .i64 y.g] 28)) w' → (w'.cell? ⟨w.heap.size, 0, none⟩ = some (.int .i64 x.c) ∧ w'.cell? ⟨w.heap.size, 1, none⟩ = some (.int .i64 x.b) ∧ w'.cell? ⟨w.heap.size, 2, none⟩ = some (.int .i64 x.m) ∧ w'.cell? ⟨w.heap.size, 3, none⟩ = some (.int .i64 x.g) ∧ w'.cell? ⟨w.heap.size + 1, 0, none⟩ = some (.int .i64 y.c) ∧ w'.cell? ⟨w.heap.size + 1, 1, none⟩ = some (.int .i64 y.b) ∧ w'.cell? ⟨w.heap.size + 1, 2, none⟩ = some (.int .i64 y.m) ∧ w'.cell? ⟨w.heap.size + 1, 3, none⟩ = some (.int .i64 y.g)) := fun w' h => ⟨(VA.kept h).2.1 0 (by simp), (VA.kept h).2.1 1 (by simp), (VA.kept h).2.1 2 (by simp), (VA.kept h).2.1 3 (by simp), (VB.kept h).2.1 0 (by simp), (VB.kept h).2.1 1 (by simp), (VB.kept h).2.1 2 (by simp), (VB.kept h).2.1 3 (by simp)⟩
  have K := Hid.mk K
  go_wp2_with fail
  refine wp_region_held_drew (S := (fun w' => w'.cell? ⟨w.heap.size, 0, none⟩ = some (.int .i64 x.c) ∧ w'.cell? ⟨w.heap.size, 1, none⟩ = some (.int .i64 x.b) ∧ w'.cell? ⟨w.heap.size, 2, none⟩ = some (.int .i64 x.m) ∧ w'.cell? ⟨w.heap.size, 3, none⟩ = some (.int .i64 x.g) ∧ w'.cell? ⟨w.heap.size + 1, 0, none⟩ = some (.int .i64 y.c) ∧ w'.cell? ⟨w.heap.size + 1, 1, none⟩ = some (.int .i64 y.b) ∧ w'.cell? ⟨w.heap.size + 1, 2, none⟩ = some (.int .i64 y.m) ∧ w'.cell? ⟨w.heap.size + 1, 3, none⟩ = some (.int .i64 y.g))) (by kernel_rfl) (K.out _ (Below.refl _ _).drew) (fun hHeld => ?_)
  refine wpAnyH_take (i := 0) (oi := _) (v := ?vz1u1) rfl (by kernel_rfl) (by kernel_rfl) (by kernel_rfl) (fun _ _ _ h => h) (Or.inl ⟨by kernel_rfl, ?hyz1u1⟩) hHeld ?restz1u1
  case hyz1u1 => (intro w hSw; (try dsimp only at hSw); go_simp; first | done | with_reducible rfl)
  try simp only [Act.put, List.getElem_toArray, List.getElem_cons_zero, List.setIfInBounds_toArray, List.set_cons_zero, List.set_cons_succ]
  refine wpAnyH_take (i := 2) (oi := _) (v := ?vz1u2) rfl (by kernel_rfl) (by kernel_rfl) (by kernel_rfl) (fun _ _ _ h => h) (Or.inl ⟨by kernel_rfl, ?hyz1u2⟩) hHeld ?restz1u2
  case hyz1u2 => (intro w hSw; (try dsimp only at hSw); go_simp; first | done | with_reducible rfl)
  try simp only [Act.put, List.getElem_toArray, List.getElem_cons_zero, List.getElem_cons_succ, List.setIfInBounds_toArray, List.set_cons_zero, List.set_cons_succ]
  refine wpAnyH_ready (rs := [1]) (by kernel_rfl) (by simp) ?_
  refine AllReadyH.cons (o := _) rfl (fun K0 hK0 => ?_) AllReadyH.nil
  go_simp
  go_at_call 53
  refine (rankOf_ok x _).mono ?_
  rintro e wz1v3 ⟨rfl, bz1v3⟩
  refine hK0.out _ _ (K.out _ (thenB (Below.refl _ _).drew bz1v3)) (fun hHeld => ?_)
  clear hK0 K0
  try simp only [Act.put, List.getElem_toArray, List.getElem_cons_zero, List.getElem_cons_succ, List.setIfInBounds_toArray, List.set_cons_zero, List.set_cons_succ]
  refine wpAnyH_ready (rs := [3]) (by kernel_rfl) (by simp) ?_
  refine AllReadyH.cons (o := _) rfl (fun K0 hK0 => ?_) AllReadyH.nil
  go_simp
  go_at_call 53
  refine (rankOf_ok y _).mono ?_
  rintro e wz1v4 ⟨rfl, bz1v4⟩
  refine hK0.out _ _ (K.out _ (thenB (thenB (Below.refl _ _).drew bz1v3) bz1v4)) (fun hHeld => ?_)
  clear hK0 K0
  try simp only [Act.put, List.getElem_toArray, List.getElem_cons_zero, List.getElem_cons_succ, List.setIfInBounds_toArray, List.set_cons_zero, List.set_cons_succ]
  refine wpAnyH_ready (rs := [4]) (by kernel_rfl) (by simp) ?_
  refine AllReadyH.cons (o := _) rfl (fun K0 hK0 => ?_) AllReadyH.nil
  go_simp
  go_at_call 65
  refine (compare_ok2 x y hx hy _).mono ?_
  rintro e wz1v5 ⟨rfl, bz1v5⟩
  refine hK0.out _ _ (K.out _ (thenB (thenB (thenB (Below.refl _ _).drew bz1v3) bz1v4) bz1v5)) (fun hHeld => ?_)
  clear hK0 K0
  try simp only [Act.put, List.getElem_toArray, List.getElem_cons_zero, List.getElem_cons_succ, List.setIfInBounds_toArray, List.set_cons_zero, List.set_cons_succ]
  refine wpAnyH_take (i := 5) (oi := _) (v := ?vz1u6) rfl (by kernel_rfl) (by kernel_rfl) (by kernel_rfl) (fun _ _ _ h => h) (Or.inl ⟨by kernel_rfl, ?hyz1u6⟩) hHeld ?restz1u6
  case hyz1u6 => (intro w hSw; (try dsimp only at hSw); go_simp; first | done | with_reducible rfl)
  try simp only [Act.put, List.getElem_toArray, List.getElem_cons_zero, List.getElem_cons_succ, List.setIfInBounds_toArray, List.set_cons_zero, List.set_cons_succ]
  refine wpAnyH_done (by kernel_rfl) ?_ _
  clear K hHeld
  have bacc : Below ((w.alloc (.cells #[.int .i64 x.c, .int .i64 x.b, .int .i64 x.m, .int .i64 x.g] 28)).alloc (.cells #[.int .i64 y.c, .int .i64 y.b, .int .i64 y.m, .int .i64 y.g] 28)).heap.size ((w.alloc (.cells #[.int .i64 x.c, .int .i64 x.b, .int .i64 x.m, .int .i64 x.g] 28)).alloc (.cells #[.int .i64 y.c, .int .i64 y.b, .int .i64 y.m, .int .i64 y.g] 28)) wz1v5 := (thenB (thenB (thenB (Below.refl _ _).drew bz1v3) bz1v4) bz1v5)
  replace VA := VA.kept bacc
  replace VB := VB.kept bacc
  replace B := thenB B bacc
  have Sz1 := (bacc).size
  clear bacc
  simp only [World.size_alloc] at Sz1
  clear bz1v3 bz1v4 bz1v5
  obtain ⟨s_VA, f_VA, z_VA⟩ := VA.open
  obtain ⟨s_VB, f_VB, z_VB⟩ := VB.open
  have Bo := B
  go_wp2
  go_ret
  exact ⟨rfl, Bo⟩
  
set_option maxRecDepth 20000 in
set_option maxHeartbeats 2000000 in
theorem implWeaker_ok (a b : Su) (w : World) :
    Calls Try.prog 18 #[.agg #[.int .i64 a.c, .int .i64 a.b, .int .i64 a.m, .int .i64 a.g], .agg #[.int .i64 b.c, .int .i64 b.b, .int .i64 b.m, .int .i64 b.g]] w fun e w' => e = .returned (.bool (wkB a b)) ∧ Below w.heap.size w w' := by
  cases hl : leSu a b
  · have q : ∀ w : World, (binOp .eql 28 (.agg #[.int .i64 a.c, .int .i64 a.b, .int .i64 a.m, .int .i64 a.g]) (.agg #[.int .i64 (min a.c b.c), .int .i64 (min a.b b.b), .int .i64 (min a.m b.m), .int .i64 (min a.g b.g)])).run Try.prog w = .ok (.bool false) w := fun w => by
      have h := eql_suite a (mnSu a b) w
      rw [mnSu_eq, hl] at h
      exact h
    have e : wkB a b = false := by unfold wkB; rw [hl, Bool.and_false]
    rw [e]
    clear e
    clear hl
    go_enter Try.func18, Try.ntmps18
    have B := Below.refl w.heap.size w
    replace B := thenB B (belowA w (.cells #[.int .i64 a.c, .int .i64 a.b, .int .i64 a.m, .int .i64 a.g] 28))
    have VA := V.new w [.int .i64 a.c, .int .i64 a.b, .int .i64 a.m, .int .i64 a.g] 28
    replace VA := VA.kept (belowA (w.alloc (.cells #[.int .i64 a.c, .int .i64 a.b, .int .i64 a.m, .int .i64 a.g] 28)) (.cells #[.int .i64 b.c, .int .i64 b.b, .int .i64 b.m, .int .i64 b.g] 28))
    replace B := thenB B (belowA (w.alloc (.cells #[.int .i64 a.c, .int .i64 a.b, .int .i64 a.m, .int .i64 a.g] 28)) (.cells #[.int .i64 b.c, .int .i64 b.b, .int .i64 b.m, .int .i64 b.g] 28))
    have VB : V ((w.alloc (.cells #[.int .i64 a.c, .int .i64 a.b, .int .i64 a.m, .int .i64 a.g] 28)).alloc (.cells #[.int .i64 b.c, .int .i64 b.b, .int .i64 b.m, .int .i64 b.g] 28)) (w.heap.size + 1) [.int .i64 b.c, .int .i64 b.b, .int .i64 b.m, .int .i64 b.g] := V.newAt _ _ _ _ (by simp)
    obtain ⟨s_VA, f_VA, z_VA⟩ := VA.open
    obtain ⟨s_VB, f_VB, z_VB⟩ := VB.open
    have Bo := B
    clear s_VA f_VA z_VA s_VB f_VB z_VB
    have K : ∀ w' : World, Below ((w.alloc (.cells #[.int .i64 a.c, .int .i64 a.b, .int .i64 a.m, .int .i64 a.g] 28)).alloc (.cells #[.int .i64 b.c, .int .i64 b.b, .int .i64 b.m, .int .i64 b.g] 28)).heap.size ((w.alloc (.cells #[.int .i64 a.c, .int .i64 a.b, .int .i64 a.m, .int .i64 a.g] 28)).alloc (.cells #[.int .i64 b.c, .int .i64 b.b, .int .i64 b.m, .int .i64 b.g] 28)) w' → (w'.cell? ⟨w.heap.size, 0, none⟩ = some (.int .i64 a.c) ∧ w'.cell? ⟨w.heap.size, 1, none⟩ = some (.int .i64 a.b) ∧ w'.cell? ⟨w.heap.size, 2, none⟩ = some (.int .i64 a.m) ∧ w'.cell? ⟨w.heap.size, 3, none⟩ = some (.int .i64 a.g) ∧ w'.cell? ⟨w.heap.size + 1, 0, none⟩ = some (.int .i64 b.c) ∧ w'.cell? ⟨w.heap.size + 1, 1, none⟩ = some (.int .i64 b.b) ∧ w'.cell? ⟨w.heap.size + 1, 2, none⟩ = some (.int .i64 b.m) ∧ w'.cell? ⟨w.heap.size + 1, 3, none⟩ = some (.int .i64 b.g)) := fun w' h => ⟨(VA.kept h).2.1 0 (by simp), (VA.kept h).2.1 1 (by simp), (VA.kept h).2.1 2 (by simp), (VA.kept h).2.1 3 (by simp), (VB.kept h).2.1 0 (by simp), (VB.kept h).2.1 1 (by simp), (VB.kept h).2.1 2 (by simp), (VB.kept h).2.1 3 (by simp)⟩
    have K := Hid.mk K
    go_wp2_with fail
    refine wp_region_held_drew (S := (fun w' => w'.cell? ⟨w.heap.size, 0, none⟩ = some (.int .i64 a.c) ∧ w'.cell? ⟨w.heap.size, 1, none⟩ = some (.int .i64 a.b) ∧ w'.cell? ⟨w.heap.size, 2, none⟩ = some (.int .i64 a.m) ∧ w'.cell? ⟨w.heap.size, 3, none⟩ = some (.int .i64 a.g) ∧ w'.cell? ⟨w.heap.size + 1, 0, none⟩ = some (.int .i64 b.c) ∧ w'.cell? ⟨w.heap.size + 1, 1, none⟩ = some (.int .i64 b.b) ∧ w'.cell? ⟨w.heap.size + 1, 2, none⟩ = some (.int .i64 b.m) ∧ w'.cell? ⟨w.heap.size + 1, 3, none⟩ = some (.int .i64 b.g))) (by kernel_rfl) (K.out _ (Below.refl _ _).drew) (fun hHeld => ?_)
    refine wpAnyH_take (i := 0) (oi := _) (v := ?vz1u1) rfl (by kernel_rfl) (by kernel_rfl) (by kernel_rfl) (fun _ _ _ h => h) (Or.inl ⟨by kernel_rfl, ?hyz1u1⟩) hHeld ?restz1u1
    case hyz1u1 => (intro w hSw; (try dsimp only at hSw); go_simp; first | done | with_reducible rfl)
    try simp only [Act.put, List.getElem_toArray, List.getElem_cons_zero, List.setIfInBounds_toArray, List.set_cons_zero, List.set_cons_succ]
    refine wpAnyH_take (i := 1) (oi := _) (v := ?vz1u2) rfl (by kernel_rfl) (by kernel_rfl) (by kernel_rfl) (fun _ _ _ h => h) (Or.inl ⟨by kernel_rfl, ?hyz1u2⟩) hHeld ?restz1u2
    case hyz1u2 => (intro w hSw; (try dsimp only at hSw); go_simp; first | done | with_reducible rfl)
    try simp only [Act.put, List.getElem_toArray, List.getElem_cons_zero, List.getElem_cons_succ, List.setIfInBounds_toArray, List.set_cons_zero, List.set_cons_succ]
    refine wpAnyH_take (i := 2) (oi := _) (v := ?vz1u3) rfl (by kernel_rfl) (by kernel_rfl) (by kernel_rfl) (fun _ _ _ h => h) (Or.inl ⟨by kernel_rfl, ?hyz1u3⟩) hHeld ?restz1u3
    case hyz1u3 => (intro w hSw; (try dsimp only at hSw); go_simp; first | done | with_reducible rfl)
    try simp only [Act.put, List.getElem_toArray, List.getElem_cons_zero, List.getElem_cons_succ, List.setIfInBounds_toArray, List.set_cons_zero, List.set_cons_succ]
    refine wpAnyH_ready (rs := [3]) (by kernel_rfl) (by simp) ?_
    refine AllReadyH.cons (o := _) rfl (fun K0 hK0 => ?_) AllReadyH.nil
    go_simp
    go_at_call 52
    refine (lesser_ok a b _).mono ?_
    rintro e wz1v4 ⟨rfl, bz1v4⟩
    refine hK0.out _ _ (K.out _ (thenB (Below.refl _ _).drew bz1v4)) (fun hHeld => ?_)
    clear hK0 K0
    try simp only [Act.put, List.getElem_toArray, List.getElem_cons_zero, List.getElem_cons_succ, List.setIfInBounds_toArray, List.set_cons_zero, List.set_cons_succ]
    refine wpAnyH_take (i := 4) (oi := _) (v := ?vz1u5) rfl (by kernel_rfl) (by kernel_rfl) (by kernel_rfl) (fun _ _ _ h => h) (Or.inl ⟨by kernel_rfl, ?hyz1u5⟩) hHeld ?restz1u5
    case hyz1u5 => (intro w hSw; (try dsimp only at hSw); go_simp; first | done | with_reducible rfl)
    try simp only [Act.put, List.getElem_toArray, List.getElem_cons_zero, List.getElem_cons_succ, List.setIfInBounds_toArray, List.set_cons_zero, List.set_cons_succ]
    refine wpAnyH_take (i := 5) (oi := _) (v := ?vz1u6) rfl (by kernel_rfl) (by kernel_rfl) (by kernel_rfl) (fun _ _ _ h => h) (Or.inl ⟨by kernel_rfl, ?hyz1u6⟩) hHeld ?restz1u6
    case hyz1u6 => (intro w hSw; (try dsimp only at hSw); go_simp; first | done | with_reducible rfl)
    try simp only [Act.put, List.getElem_toArray, List.getElem_cons_zero, List.getElem_cons_succ, List.setIfInBounds_toArray, List.set_cons_zero, List.set_cons_succ]
    refine wpAnyH_take (i := 6) (oi := _) (v := undef) rfl (by kernel_rfl) (by kernel_rfl) (by kernel_rfl) (fun _ _ _ h => h) (Or.inr ⟨by rfl, rfl⟩) hHeld ?_
    try simp only [Act.put, List.getElem_toArray, List.getElem_cons_zero, List.getElem_cons_succ, List.setIfInBounds_toArray, List.set_cons_zero, List.set_cons_succ]
    refine wpAnyH_take (i := 7) (oi := _) (v := undef) rfl (by kernel_rfl) (by kernel_rfl) (by kernel_rfl) (fun _ _ _ h => h) (Or.inr ⟨by rfl, rfl⟩) hHeld ?_
    try simp only [Act.put, List.getElem_toArray, List.getElem_cons_zero, List.getElem_cons_succ, List.setIfInBounds_toArray, List.set_cons_zero, List.set_cons_succ]
    refine wpAnyH_take (i := 8) (oi := _) (v := undef) rfl (by kernel_rfl) (by kernel_rfl) (by kernel_rfl) (fun _ _ _ h => h) (Or.inr ⟨by rfl, rfl⟩) hHeld ?_
    try simp only [Act.put, List.getElem_toArray, List.getElem_cons_zero, List.getElem_cons_succ, List.setIfInBounds_toArray, List.set_cons_zero, List.set_cons_succ]
    refine wpAnyH_take (i := 9) (oi := _) (v := undef) rfl (by kernel_rfl) (by kernel_rfl) (by kernel_rfl) (fun _ _ _ h => h) (Or.inr ⟨by rfl, rfl⟩) hHeld ?_
    try simp only [Act.put, List.getElem_toArray, List.getElem_cons_zero, List.getElem_cons_succ, List.setIfInBounds_toArray, List.set_cons_zero, List.set_cons_succ]
    refine wpAnyH_take (i := 10) (oi := _) (v := undef) rfl (by kernel_rfl) (by kernel_rfl) (by kernel_rfl) (fun _ _ _ h => h) (Or.inr ⟨by rfl, rfl⟩) hHeld ?_
    try simp only [Act.put, List.getElem_toArray, List.getElem_cons_zero, List.getElem_cons_succ, List.setIfInBounds_toArray, List.set_cons_zero, List.set_cons_succ]
    refine wpAnyH_take (i := 11) (oi := _) (v := ?vz1u7) rfl (by kernel_rfl) (by kernel_rfl) (by kernel_rfl) (fun _ _ _ h => h) (Or.inl ⟨by kernel_rfl, ?hyz1u7⟩) hHeld ?restz1u7
    case hyz1u7 => (intro w hSw; (try dsimp only at hSw); go_simp; first | done | with_reducible rfl)
    try simp only [Act.put, List.getElem_toArray, List.getElem_cons_zero, List.getElem_cons_succ, List.setIfInBounds_toArray, List.set_cons_zero, List.set_cons_succ]
    refine wpAnyH_take (i := 12) (oi := _) (v := ?vz1u8) rfl (by kernel_rfl) (by kernel_rfl) (by kernel_rfl) (fun _ _ _ h => h) (Or.inl ⟨by kernel_rfl, ?hyz1u8⟩) hHeld ?restz1u8
    case hyz1u8 => (intro w hSw; (try dsimp only at hSw); go_simp; first | done | with_reducible rfl)
    try simp only [Act.put, List.getElem_toArray, List.getElem_cons_zero, List.getElem_cons_succ, List.setIfInBounds_toArray, List.set_cons_zero, List.set_cons_succ]
    refine wpAnyH_done (by kernel_rfl) ?_ _
    clear K hHeld
    have bacc : Below ((w.alloc (.cells #[.int .i64 a.c, .int .i64 a.b, .int .i64 a.m, .int .i64 a.g] 28)).alloc (.cells #[.int .i64 b.c, .int .i64 b.b, .int .i64 b.m, .int .i64 b.g] 28)).heap.size ((w.alloc (.cells #[.int .i64 a.c, .int .i64 a.b, .int .i64 a.m, .int .i64 a.g] 28)).alloc (.cells #[.int .i64 b.c, .int .i64 b.b, .int .i64 b.m, .int .i64 b.g] 28)) wz1v4 := (thenB (Below.refl _ _).drew bz1v4)
    replace VA := VA.kept bacc
    replace VB := VB.kept bacc
    replace B := thenB B bacc
    have Sz1 := (bacc).size
    clear bacc
    simp only [World.size_alloc] at Sz1
    clear bz1v4
    obtain ⟨s_VA, f_VA, z_VA⟩ := VA.open
    obtain ⟨s_VB, f_VB, z_VB⟩ := VB.open
    have Bo := B
    go_wp2
    go_ret
    exact ⟨rfl, Bo⟩
  · have q : ∀ w : World, (binOp .eql 28 (.agg #[.int .i64 a.c, .int .i64 a.b, .int .i64 a.m, .int .i64 a.g]) (.agg #[.int .i64 (min a.c b.c), .int .i64 (min a.b b.b), .int .i64 (min a.m b.m), .int .i64 (min a.g b.g)])).run Try.prog w = .ok (.bool true) w := fun w => by
      have h := eql_suite a (mnSu a b) w
      rw [mnSu_eq, hl] at h
      exact h
    have lt : (FloatKind.f64.format.order (rkB a) (rkB b) == some Ordering.lt) = wkB a b := by
      rw [rk_lt]
      unfold wkB
      rw [hl, Bool.and_true]
      cases ha : okSu a
      · rfl
      · cases hb : okSu b
        · rfl
        · rw [wk_rank ha hb hl]
    clear hl
    go_enter Try.func18, Try.ntmps18
    have B := Below.refl w.heap.size w
    replace B := thenB B (belowA w (.cells #[.int .i64 a.c, .int .i64 a.b, .int .i64 a.m, .int .i64 a.g] 28))
    have VA := V.new w [.int .i64 a.c, .int .i64 a.b, .int .i64 a.m, .int .i64 a.g] 28
    replace VA := VA.kept (belowA (w.alloc (.cells #[.int .i64 a.c, .int .i64 a.b, .int .i64 a.m, .int .i64 a.g] 28)) (.cells #[.int .i64 b.c, .int .i64 b.b, .int .i64 b.m, .int .i64 b.g] 28))
    replace B := thenB B (belowA (w.alloc (.cells #[.int .i64 a.c, .int .i64 a.b, .int .i64 a.m, .int .i64 a.g] 28)) (.cells #[.int .i64 b.c, .int .i64 b.b, .int .i64 b.m, .int .i64 b.g] 28))
    have VB : V ((w.alloc (.cells #[.int .i64 a.c, .int .i64 a.b, .int .i64 a.m, .int .i64 a.g] 28)).alloc (.cells #[.int .i64 b.c, .int .i64 b.b, .int .i64 b.m, .int .i64 b.g] 28)) (w.heap.size + 1) [.int .i64 b.c, .int .i64 b.b, .int .i64 b.m, .int .i64 b.g] := V.newAt _ _ _ _ (by simp)
    obtain ⟨s_VA, f_VA, z_VA⟩ := VA.open
    obtain ⟨s_VB, f_VB, z_VB⟩ := VB.open
    have Bo := B
    clear s_VA f_VA z_VA s_VB f_VB z_VB
    have K : ∀ w' : World, Below ((w.alloc (.cells #[.int .i64 a.c, .int .i64 a.b, .int .i64 a.m, .int .i64 a.g] 28)).alloc (.cells #[.int .i64 b.c, .int .i64 b.b, .int .i64 b.m, .int .i64 b.g] 28)).heap.size ((w.alloc (.cells #[.int .i64 a.c, .int .i64 a.b, .int .i64 a.m, .int .i64 a.g] 28)).alloc (.cells #[.int .i64 b.c, .int .i64 b.b, .int .i64 b.m, .int .i64 b.g] 28)) w' → (w'.cell? ⟨w.heap.size, 0, none⟩ = some (.int .i64 a.c) ∧ w'.cell? ⟨w.heap.size, 1, none⟩ = some (.int .i64 a.b) ∧ w'.cell? ⟨w.heap.size, 2, none⟩ = some (.int .i64 a.m) ∧ w'.cell? ⟨w.heap.size, 3, none⟩ = some (.int .i64 a.g) ∧ w'.cell? ⟨w.heap.size + 1, 0, none⟩ = some (.int .i64 b.c) ∧ w'.cell? ⟨w.heap.size + 1, 1, none⟩ = some (.int .i64 b.b) ∧ w'.cell? ⟨w.heap.size + 1, 2, none⟩ = some (.int .i64 b.m) ∧ w'.cell? ⟨w.heap.size + 1, 3, none⟩ = some (.int .i64 b.g)) := fun w' h => ⟨(VA.kept h).2.1 0 (by simp), (VA.kept h).2.1 1 (by simp), (VA.kept h).2.1 2 (by simp), (VA.kept h).2.1 3 (by simp), (VB.kept h).2.1 0 (by simp), (VB.kept h).2.1 1 (by simp), (VB.kept h).2.1 2 (by simp), (VB.kept h).2.1 3 (by simp)⟩
    have K := Hid.mk K
    go_wp2_with fail
    refine wp_region_held_drew (S := (fun w' => w'.cell? ⟨w.heap.size, 0, none⟩ = some (.int .i64 a.c) ∧ w'.cell? ⟨w.heap.size, 1, none⟩ = some (.int .i64 a.b) ∧ w'.cell? ⟨w.heap.size, 2, none⟩ = some (.int .i64 a.m) ∧ w'.cell? ⟨w.heap.size, 3, none⟩ = some (.int .i64 a.g) ∧ w'.cell? ⟨w.heap.size + 1, 0, none⟩ = some (.int .i64 b.c) ∧ w'.cell? ⟨w.heap.size + 1, 1, none⟩ = some (.int .i64 b.b) ∧ w'.cell? ⟨w.heap.size + 1, 2, none⟩ = some (.int .i64 b.m) ∧ w'.cell? ⟨w.heap.size + 1, 3, none⟩ = some (.int .i64 b.g))) (by kernel_rfl) (K.out _ (Below.refl _ _).drew) (fun hHeld => ?_)
    refine wpAnyH_take (i := 0) (oi := _) (v := ?vz6u1) rfl (by kernel_rfl) (by kernel_rfl) (by kernel_rfl) (fun _ _ _ h => h) (Or.inl ⟨by kernel_rfl, ?hyz6u1⟩) hHeld ?restz6u1
    case hyz6u1 => (intro w hSw; (try dsimp only at hSw); go_simp; first | done | with_reducible rfl)
    try simp only [Act.put, List.getElem_toArray, List.getElem_cons_zero, List.setIfInBounds_toArray, List.set_cons_zero, List.set_cons_succ]
    refine wpAnyH_take (i := 1) (oi := _) (v := ?vz6u2) rfl (by kernel_rfl) (by kernel_rfl) (by kernel_rfl) (fun _ _ _ h => h) (Or.inl ⟨by kernel_rfl, ?hyz6u2⟩) hHeld ?restz6u2
    case hyz6u2 => (intro w hSw; (try dsimp only at hSw); go_simp; first | done | with_reducible rfl)
    try simp only [Act.put, List.getElem_toArray, List.getElem_cons_zero, List.getElem_cons_succ, List.setIfInBounds_toArray, List.set_cons_zero, List.set_cons_succ]
    refine wpAnyH_take (i := 2) (oi := _) (v := ?vz6u3) rfl (by kernel_rfl) (by kernel_rfl) (by kernel_rfl) (fun _ _ _ h => h) (Or.inl ⟨by kernel_rfl, ?hyz6u3⟩) hHeld ?restz6u3
    case hyz6u3 => (intro w hSw; (try dsimp only at hSw); go_simp; first | done | with_reducible rfl)
    try simp only [Act.put, List.getElem_toArray, List.getElem_cons_zero, List.getElem_cons_succ, List.setIfInBounds_toArray, List.set_cons_zero, List.set_cons_succ]
    refine wpAnyH_ready (rs := [3]) (by kernel_rfl) (by simp) ?_
    refine AllReadyH.cons (o := _) rfl (fun K0 hK0 => ?_) AllReadyH.nil
    go_simp
    go_at_call 52
    refine (lesser_ok a b _).mono ?_
    rintro e wz6v4 ⟨rfl, bz6v4⟩
    refine hK0.out _ _ (K.out _ (thenB (Below.refl _ _).drew bz6v4)) (fun hHeld => ?_)
    clear hK0 K0
    try simp only [Act.put, List.getElem_toArray, List.getElem_cons_zero, List.getElem_cons_succ, List.setIfInBounds_toArray, List.set_cons_zero, List.set_cons_succ]
    refine wpAnyH_take (i := 4) (oi := _) (v := ?vz6u5) rfl (by kernel_rfl) (by kernel_rfl) (by kernel_rfl) (fun _ _ _ h => h) (Or.inl ⟨by kernel_rfl, ?hyz6u5⟩) hHeld ?restz6u5
    case hyz6u5 => (intro w hSw; (try dsimp only at hSw); go_simp; first | done | with_reducible rfl)
    try simp only [Act.put, List.getElem_toArray, List.getElem_cons_zero, List.getElem_cons_succ, List.setIfInBounds_toArray, List.set_cons_zero, List.set_cons_succ]
    refine wpAnyH_take (i := 5) (oi := _) (v := ?vz6u6) rfl (by kernel_rfl) (by kernel_rfl) (by kernel_rfl) (fun _ _ _ h => h) (Or.inl ⟨by kernel_rfl, ?hyz6u6⟩) hHeld ?restz6u6
    case hyz6u6 => (intro w hSw; (try dsimp only at hSw); go_simp; first | done | with_reducible rfl)
    try simp only [Act.put, List.getElem_toArray, List.getElem_cons_zero, List.getElem_cons_succ, List.setIfInBounds_toArray, List.set_cons_zero, List.set_cons_succ]
    refine wpAnyH_take (i := 6) (oi := _) (v := ?vz6u7) rfl (by kernel_rfl) (by kernel_rfl) (by kernel_rfl) (fun _ _ _ h => h) (Or.inl ⟨by kernel_rfl, ?hyz6u7⟩) hHeld ?restz6u7
    case hyz6u7 => (intro w hSw; (try dsimp only at hSw); go_simp; first | done | with_reducible rfl)
    try simp only [Act.put, List.getElem_toArray, List.getElem_cons_zero, List.getElem_cons_succ, List.setIfInBounds_toArray, List.set_cons_zero, List.set_cons_succ]
    refine wpAnyH_take (i := 8) (oi := _) (v := ?vz6u8) rfl (by kernel_rfl) (by kernel_rfl) (by kernel_rfl) (fun _ _ _ h => h) (Or.inl ⟨by kernel_rfl, ?hyz6u8⟩) hHeld ?restz6u8
    case hyz6u8 => (intro w hSw; (try dsimp only at hSw); go_simp; first | done | with_reducible rfl)
    try simp only [Act.put, List.getElem_toArray, List.getElem_cons_zero, List.getElem_cons_succ, List.setIfInBounds_toArray, List.set_cons_zero, List.set_cons_succ]
    refine wpAnyH_ready (rs := [7]) (by kernel_rfl) (by simp) ?_
    refine AllReadyH.cons (o := _) rfl (fun K0 hK0 => ?_) AllReadyH.nil
    go_simp
    go_at_call 53
    refine (rankOf_ok a _).mono ?_
    rintro e wz6v9 ⟨rfl, bz6v9⟩
    refine hK0.out _ _ (K.out _ (thenB (thenB (Below.refl _ _).drew bz6v4) bz6v9)) (fun hHeld => ?_)
    clear hK0 K0
    try simp only [Act.put, List.getElem_toArray, List.getElem_cons_zero, List.getElem_cons_succ, List.setIfInBounds_toArray, List.set_cons_zero, List.set_cons_succ]
    refine wpAnyH_ready (rs := [9]) (by kernel_rfl) (by simp) ?_
    refine AllReadyH.cons (o := _) rfl (fun K0 hK0 => ?_) AllReadyH.nil
    go_simp
    go_at_call 53
    refine (rankOf_ok b _).mono ?_
    rintro e wz6v10 ⟨rfl, bz6v10⟩
    refine hK0.out _ _ (K.out _ (thenB (thenB (thenB (Below.refl _ _).drew bz6v4) bz6v9) bz6v10)) (fun hHeld => ?_)
    clear hK0 K0
    try simp only [Act.put, List.getElem_toArray, List.getElem_cons_zero, List.getElem_cons_succ, List.setIfInBounds_toArray, List.set_cons_zero, List.set_cons_succ]
    refine wpAnyH_take (i := 10) (oi := _) (v := ?vz6u11) rfl (by kernel_rfl) (by kernel_rfl) (by kernel_rfl) (fun _ _ _ h => h) (Or.inl ⟨by kernel_rfl, ?hyz6u11⟩) hHeld ?restz6u11
    case hyz6u11 => (intro w hSw; (try dsimp only at hSw); go_simp; first | done | with_reducible rfl)
    try simp only [Act.put, List.getElem_toArray, List.getElem_cons_zero, List.getElem_cons_succ, List.setIfInBounds_toArray, List.set_cons_zero, List.set_cons_succ]
    refine wpAnyH_take (i := 11) (oi := _) (v := ?vz6u12) rfl (by kernel_rfl) (by kernel_rfl) (by kernel_rfl) (fun _ _ _ h => h) (Or.inl ⟨by kernel_rfl, ?hyz6u12⟩) hHeld ?restz6u12
    case hyz6u12 => (intro w hSw; (try dsimp only at hSw); go_simp; first | done | with_reducible rfl)
    try simp only [Act.put, List.getElem_toArray, List.getElem_cons_zero, List.getElem_cons_succ, List.setIfInBounds_toArray, List.set_cons_zero, List.set_cons_succ]
    refine wpAnyH_take (i := 12) (oi := _) (v := ?vz6u13) rfl (by kernel_rfl) (by kernel_rfl) (by kernel_rfl) (fun _ _ _ h => h) (Or.inl ⟨by kernel_rfl, ?hyz6u13⟩) hHeld ?restz6u13
    case hyz6u13 => (intro w hSw; (try dsimp only at hSw); go_simp; first | done | with_reducible rfl)
    try simp only [Act.put, List.getElem_toArray, List.getElem_cons_zero, List.getElem_cons_succ, List.setIfInBounds_toArray, List.set_cons_zero, List.set_cons_succ]
    refine wpAnyH_done (by kernel_rfl) ?_ _
    clear K hHeld
    have bacc : Below ((w.alloc (.cells #[.int .i64 a.c, .int .i64 a.b, .int .i64 a.m, .int .i64 a.g] 28)).alloc (.cells #[.int .i64 b.c, .int .i64 b.b, .int .i64 b.m, .int .i64 b.g] 28)).heap.size ((w.alloc (.cells #[.int .i64 a.c, .int .i64 a.b, .int .i64 a.m, .int .i64 a.g] 28)).alloc (.cells #[.int .i64 b.c, .int .i64 b.b, .int .i64 b.m, .int .i64 b.g] 28)) wz6v10 := (thenB (thenB (thenB (Below.refl _ _).drew bz6v4) bz6v9) bz6v10)
    replace VA := VA.kept bacc
    replace VB := VB.kept bacc
    replace B := thenB B bacc
    have Sz6 := (bacc).size
    clear bacc
    simp only [World.size_alloc] at Sz6
    clear bz6v4 bz6v9 bz6v10
    obtain ⟨s_VA, f_VA, z_VA⟩ := VA.open
    obtain ⟨s_VB, f_VB, z_VB⟩ := VB.open
    have Bo := B
    go_wp2
    go_ret
    exact ⟨rfl, Bo⟩

set_option maxRecDepth 20000 in
set_option maxHeartbeats 4000000 in
theorem specWeaker_ok (a b : Su) (w : World) :
    Calls Try.prog 35 #[.agg #[.int .i64 a.c, .int .i64 a.b, .int .i64 a.m, .int .i64 a.g], .agg #[.int .i64 b.c, .int .i64 b.b, .int .i64 b.m, .int .i64 b.g]] w fun e w' => e = .returned (.bool (wkB a b)) ∧ Below w.heap.size w w' := by
  have CA := Hid.mk (fun w => specSuiteFault_ok a w)
  have CB := Hid.mk (fun w => specSuiteFault_ok b w)
  have qn := neq_suite a b
  cases ha : okSu a
  · simp only [sfC_no ha] at CA
    rw [show wkB a b = false by simp [wkB, ha]]
    clear ha
    go_enter Try.func35, Try.ntmps35
    have B := Below.refl w.heap.size w
    replace B := thenB B (belowA w (.cells #[.int .i64 a.c, .int .i64 a.b, .int .i64 a.m, .int .i64 a.g] 28))
    have VA := V.new w [.int .i64 a.c, .int .i64 a.b, .int .i64 a.m, .int .i64 a.g] 28
    replace VA := VA.kept (belowA (w.alloc (.cells #[.int .i64 a.c, .int .i64 a.b, .int .i64 a.m, .int .i64 a.g] 28)) (.cells #[.int .i64 b.c, .int .i64 b.b, .int .i64 b.m, .int .i64 b.g] 28))
    replace B := thenB B (belowA (w.alloc (.cells #[.int .i64 a.c, .int .i64 a.b, .int .i64 a.m, .int .i64 a.g] 28)) (.cells #[.int .i64 b.c, .int .i64 b.b, .int .i64 b.m, .int .i64 b.g] 28))
    have VB : V ((w.alloc (.cells #[.int .i64 a.c, .int .i64 a.b, .int .i64 a.m, .int .i64 a.g] 28)).alloc (.cells #[.int .i64 b.c, .int .i64 b.b, .int .i64 b.m, .int .i64 b.g] 28)) (w.heap.size + 1) [.int .i64 b.c, .int .i64 b.b, .int .i64 b.m, .int .i64 b.g] := V.newAt _ _ _ _ (by simp)
    obtain ⟨s_VA, f_VA, z_VA⟩ := VA.open
    obtain ⟨s_VB, f_VB, z_VB⟩ := VB.open
    have Bo := B
    go_wp2_with fail
    refine (CA.out _).mono ?_
    rintro e w1 ⟨rfl, b1⟩
    clear s_VA f_VA z_VA s_VB f_VB z_VB
    have S1 := b1.size
    simp only [World.size_alloc] at S1
    replace VA := VA.kept b1
    replace VB := VB.kept b1
    replace B := thenB B b1
    clear b1
    obtain ⟨s_VA, f_VA, z_VA⟩ := VA.open
    obtain ⟨s_VB, f_VB, z_VB⟩ := VB.open
    have Bo := B
    go_wp2
    go_ret
    exact ⟨rfl, Bo⟩
  · simp only [sfC_yes ha] at CA
    cases hb : okSu b
    · simp only [sfC_no hb] at CB
      rw [show wkB a b = false by simp [wkB, hb]]
      clear ha hb
      go_enter Try.func35, Try.ntmps35
      have B := Below.refl w.heap.size w
      replace B := thenB B (belowA w (.cells #[.int .i64 a.c, .int .i64 a.b, .int .i64 a.m, .int .i64 a.g] 28))
      have VA := V.new w [.int .i64 a.c, .int .i64 a.b, .int .i64 a.m, .int .i64 a.g] 28
      replace VA := VA.kept (belowA (w.alloc (.cells #[.int .i64 a.c, .int .i64 a.b, .int .i64 a.m, .int .i64 a.g] 28)) (.cells #[.int .i64 b.c, .int .i64 b.b, .int .i64 b.m, .int .i64 b.g] 28))
      replace B := thenB B (belowA (w.alloc (.cells #[.int .i64 a.c, .int .i64 a.b, .int .i64 a.m, .int .i64 a.g] 28)) (.cells #[.int .i64 b.c, .int .i64 b.b, .int .i64 b.m, .int .i64 b.g] 28))
      have VB : V ((w.alloc (.cells #[.int .i64 a.c, .int .i64 a.b, .int .i64 a.m, .int .i64 a.g] 28)).alloc (.cells #[.int .i64 b.c, .int .i64 b.b, .int .i64 b.m, .int .i64 b.g] 28)) (w.heap.size + 1) [.int .i64 b.c, .int .i64 b.b, .int .i64 b.m, .int .i64 b.g] := V.newAt _ _ _ _ (by simp)
      obtain ⟨s_VA, f_VA, z_VA⟩ := VA.open
      obtain ⟨s_VB, f_VB, z_VB⟩ := VB.open
      have Bo := B
      go_wp2_with fail
      refine (CA.out _).mono ?_
      rintro e w1 ⟨rfl, b1⟩
      clear s_VA f_VA z_VA s_VB f_VB z_VB
      have S1 := b1.size
      simp only [World.size_alloc] at S1
      replace VA := VA.kept b1
      replace VB := VB.kept b1
      replace B := thenB B b1
      clear b1
      obtain ⟨s_VA, f_VA, z_VA⟩ := VA.open
      obtain ⟨s_VB, f_VB, z_VB⟩ := VB.open
      have Bo := B
      go_wp2_with fail
      refine (CB.out _).mono ?_
      rintro e w2 ⟨rfl, b2⟩
      clear s_VA f_VA z_VA s_VB f_VB z_VB
      have S2 := b2.size
      replace VA := VA.kept b2
      replace VB := VB.kept b2
      replace B := thenB B b2
      clear b2
      obtain ⟨s_VA, f_VA, z_VA⟩ := VA.open
      obtain ⟨s_VB, f_VB, z_VB⟩ := VB.open
      have Bo := B
      go_wp2
      go_ret
      exact ⟨rfl, Bo⟩
    · simp only [sfC_yes hb] at CB
      by_cases he : a = b
      · simp only [decide_eq_true he, Bool.not_true] at qn
        rw [show wkB a b = false by simp [wkB, he]]
        clear ha hb he
        go_enter Try.func35, Try.ntmps35
        have B := Below.refl w.heap.size w
        replace B := thenB B (belowA w (.cells #[.int .i64 a.c, .int .i64 a.b, .int .i64 a.m, .int .i64 a.g] 28))
        have VA := V.new w [.int .i64 a.c, .int .i64 a.b, .int .i64 a.m, .int .i64 a.g] 28
        replace VA := VA.kept (belowA (w.alloc (.cells #[.int .i64 a.c, .int .i64 a.b, .int .i64 a.m, .int .i64 a.g] 28)) (.cells #[.int .i64 b.c, .int .i64 b.b, .int .i64 b.m, .int .i64 b.g] 28))
        replace B := thenB B (belowA (w.alloc (.cells #[.int .i64 a.c, .int .i64 a.b, .int .i64 a.m, .int .i64 a.g] 28)) (.cells #[.int .i64 b.c, .int .i64 b.b, .int .i64 b.m, .int .i64 b.g] 28))
        have VB : V ((w.alloc (.cells #[.int .i64 a.c, .int .i64 a.b, .int .i64 a.m, .int .i64 a.g] 28)).alloc (.cells #[.int .i64 b.c, .int .i64 b.b, .int .i64 b.m, .int .i64 b.g] 28)) (w.heap.size + 1) [.int .i64 b.c, .int .i64 b.b, .int .i64 b.m, .int .i64 b.g] := V.newAt _ _ _ _ (by simp)
        obtain ⟨s_VA, f_VA, z_VA⟩ := VA.open
        obtain ⟨s_VB, f_VB, z_VB⟩ := VB.open
        have Bo := B
        go_wp2_with fail
        refine (CA.out _).mono ?_
        rintro e w1 ⟨rfl, b1⟩
        clear s_VA f_VA z_VA s_VB f_VB z_VB
        have S1 := b1.size
        simp only [World.size_alloc] at S1
        replace VA := VA.kept b1
        replace VB := VB.kept b1
        replace B := thenB B b1
        clear b1
        obtain ⟨s_VA, f_VA, z_VA⟩ := VA.open
        obtain ⟨s_VB, f_VB, z_VB⟩ := VB.open
        have Bo := B
        go_wp2_with fail
        refine (CB.out _).mono ?_
        rintro e w2 ⟨rfl, b2⟩
        clear s_VA f_VA z_VA s_VB f_VB z_VB
        have S2 := b2.size
        replace VA := VA.kept b2
        replace VB := VB.kept b2
        replace B := thenB B b2
        clear b2
        obtain ⟨s_VA, f_VA, z_VA⟩ := VA.open
        obtain ⟨s_VB, f_VB, z_VB⟩ := VB.open
        have Bo := B
        go_wp2
        go_ret
        exact ⟨rfl, Bo⟩
      · simp only [decide_eq_false he, Bool.not_false] at qn
        cases hc : decide (a.c ≤ b.c)
        · skip
          rw [show wkB a b = false by simp only [wkB, leSu, hc, Bool.false_and, Bool.and_false]]
          clear ha hb he
          go_enter Try.func35, Try.ntmps35
          have B := Below.refl w.heap.size w
          replace B := thenB B (belowA w (.cells #[.int .i64 a.c, .int .i64 a.b, .int .i64 a.m, .int .i64 a.g] 28))
          have VA := V.new w [.int .i64 a.c, .int .i64 a.b, .int .i64 a.m, .int .i64 a.g] 28
          replace VA := VA.kept (belowA (w.alloc (.cells #[.int .i64 a.c, .int .i64 a.b, .int .i64 a.m, .int .i64 a.g] 28)) (.cells #[.int .i64 b.c, .int .i64 b.b, .int .i64 b.m, .int .i64 b.g] 28))
          replace B := thenB B (belowA (w.alloc (.cells #[.int .i64 a.c, .int .i64 a.b, .int .i64 a.m, .int .i64 a.g] 28)) (.cells #[.int .i64 b.c, .int .i64 b.b, .int .i64 b.m, .int .i64 b.g] 28))
          have VB : V ((w.alloc (.cells #[.int .i64 a.c, .int .i64 a.b, .int .i64 a.m, .int .i64 a.g] 28)).alloc (.cells #[.int .i64 b.c, .int .i64 b.b, .int .i64 b.m, .int .i64 b.g] 28)) (w.heap.size + 1) [.int .i64 b.c, .int .i64 b.b, .int .i64 b.m, .int .i64 b.g] := V.newAt _ _ _ _ (by simp)
          obtain ⟨s_VA, f_VA, z_VA⟩ := VA.open
          obtain ⟨s_VB, f_VB, z_VB⟩ := VB.open
          have Bo := B
          go_wp2_with fail
          refine (CA.out _).mono ?_
          rintro e w1 ⟨rfl, b1⟩
          clear s_VA f_VA z_VA s_VB f_VB z_VB
          have S1 := b1.size
          simp only [World.size_alloc] at S1
          replace VA := VA.kept b1
          replace VB := VB.kept b1
          replace B := thenB B b1
          clear b1
          obtain ⟨s_VA, f_VA, z_VA⟩ := VA.open
          obtain ⟨s_VB, f_VB, z_VB⟩ := VB.open
          have Bo := B
          go_wp2_with fail
          refine (CB.out _).mono ?_
          rintro e w2 ⟨rfl, b2⟩
          clear s_VA f_VA z_VA s_VB f_VB z_VB
          have S2 := b2.size
          replace VA := VA.kept b2
          replace VB := VB.kept b2
          replace B := thenB B b2
          clear b2
          obtain ⟨s_VA, f_VA, z_VA⟩ := VA.open
          obtain ⟨s_VB, f_VB, z_VB⟩ := VB.open
          have Bo := B
          go_wp2
          go_ret
          exact ⟨rfl, Bo⟩
        · skip
          cases hb' : decide (a.b ≤ b.b)
          · skip
            rw [show wkB a b = false by simp only [wkB, leSu, hb', Bool.false_and, Bool.and_false]]
            clear ha hb he
            go_enter Try.func35, Try.ntmps35
            have B := Below.refl w.heap.size w
            replace B := thenB B (belowA w (.cells #[.int .i64 a.c, .int .i64 a.b, .int .i64 a.m, .int .i64 a.g] 28))
            have VA := V.new w [.int .i64 a.c, .int .i64 a.b, .int .i64 a.m, .int .i64 a.g] 28
            replace VA := VA.kept (belowA (w.alloc (.cells #[.int .i64 a.c, .int .i64 a.b, .int .i64 a.m, .int .i64 a.g] 28)) (.cells #[.int .i64 b.c, .int .i64 b.b, .int .i64 b.m, .int .i64 b.g] 28))
            replace B := thenB B (belowA (w.alloc (.cells #[.int .i64 a.c, .int .i64 a.b, .int .i64 a.m, .int .i64 a.g] 28)) (.cells #[.int .i64 b.c, .int .i64 b.b, .int .i64 b.m, .int .i64 b.g] 28))
            have VB : V ((w.alloc (.cells #[.int .i64 a.c, .int .i64 a.b, .int .i64 a.m, .int .i64 a.g] 28)).alloc (.cells #[.int .i64 b.c, .int .i64 b.b, .int .i64 b.m, .int .i64 b.g] 28)) (w.heap.size + 1) [.int .i64 b.c, .int .i64 b.b, .int .i64 b.m, .int .i64 b.g] := V.newAt _ _ _ _ (by simp)
            obtain ⟨s_VA, f_VA, z_VA⟩ := VA.open
            obtain ⟨s_VB, f_VB, z_VB⟩ := VB.open
            have Bo := B
            go_wp2_with fail
            refine (CA.out _).mono ?_
            rintro e w1 ⟨rfl, b1⟩
            clear s_VA f_VA z_VA s_VB f_VB z_VB
            have S1 := b1.size
            simp only [World.size_alloc] at S1
            replace VA := VA.kept b1
            replace VB := VB.kept b1
            replace B := thenB B b1
            clear b1
            obtain ⟨s_VA, f_VA, z_VA⟩ := VA.open
            obtain ⟨s_VB, f_VB, z_VB⟩ := VB.open
            have Bo := B
            go_wp2_with fail
            refine (CB.out _).mono ?_
            rintro e w2 ⟨rfl, b2⟩
            clear s_VA f_VA z_VA s_VB f_VB z_VB
            have S2 := b2.size
            replace VA := VA.kept b2
            replace VB := VB.kept b2
            replace B := thenB B b2
            clear b2
            obtain ⟨s_VA, f_VA, z_VA⟩ := VA.open
            obtain ⟨s_VB, f_VB, z_VB⟩ := VB.open
            have Bo := B
            go_wp2
            go_ret
            exact ⟨rfl, Bo⟩
          · skip
            cases hm : decide (a.m ≤ b.m)
            · skip
              rw [show wkB a b = false by simp only [wkB, leSu, hm, Bool.false_and, Bool.and_false]]
              clear ha hb he
              go_enter Try.func35, Try.ntmps35
              have B := Below.refl w.heap.size w
              replace B := thenB B (belowA w (.cells #[.int .i64 a.c, .int .i64 a.b, .int .i64 a.m, .int .i64 a.g] 28))
              have VA := V.new w [.int .i64 a.c, .int .i64 a.b, .int .i64 a.m, .int .i64 a.g] 28
              replace VA := VA.kept (belowA (w.alloc (.cells #[.int .i64 a.c, .int .i64 a.b, .int .i64 a.m, .int .i64 a.g] 28)) (.cells #[.int .i64 b.c, .int .i64 b.b, .int .i64 b.m, .int .i64 b.g] 28))
              replace B := thenB B (belowA (w.alloc (.cells #[.int .i64 a.c, .int .i64 a.b, .int .i64 a.m, .int .i64 a.g] 28)) (.cells #[.int .i64 b.c, .int .i64 b.b, .int .i64 b.m, .int .i64 b.g] 28))
              have VB : V ((w.alloc (.cells #[.int .i64 a.c, .int .i64 a.b, .int .i64 a.m, .int .i64 a.g] 28)).alloc (.cells #[.int .i64 b.c, .int .i64 b.b, .int .i64 b.m, .int .i64 b.g] 28)) (w.heap.size + 1) [.int .i64 b.c, .int .i64 b.b, .int .i64 b.m, .int .i64 b.g] := V.newAt _ _ _ _ (by simp)
              obtain ⟨s_VA, f_VA, z_VA⟩ := VA.open
              obtain ⟨s_VB, f_VB, z_VB⟩ := VB.open
              have Bo := B
              go_wp2_with fail
              refine (CA.out _).mono ?_
              rintro e w1 ⟨rfl, b1⟩
              clear s_VA f_VA z_VA s_VB f_VB z_VB
              have S1 := b1.size
              simp only [World.size_alloc] at S1
              replace VA := VA.kept b1
              replace VB := VB.kept b1
              replace B := thenB B b1
              clear b1
              obtain ⟨s_VA, f_VA, z_VA⟩ := VA.open
              obtain ⟨s_VB, f_VB, z_VB⟩ := VB.open
              have Bo := B
              go_wp2_with fail
              refine (CB.out _).mono ?_
              rintro e w2 ⟨rfl, b2⟩
              clear s_VA f_VA z_VA s_VB f_VB z_VB
              have S2 := b2.size
              replace VA := VA.kept b2
              replace VB := VB.kept b2
              replace B := thenB B b2
              clear b2
              obtain ⟨s_VA, f_VA, z_VA⟩ := VA.open
              obtain ⟨s_VB, f_VB, z_VB⟩ := VB.open
              have Bo := B
              go_wp2
              go_ret
              exact ⟨rfl, Bo⟩
            · skip
              cases hg : decide (a.g ≤ b.g)
              · skip
                rw [show wkB a b = false by simp only [wkB, leSu, hg, Bool.and_false]]
                clear ha hb he
                go_enter Try.func35, Try.ntmps35
                have B := Below.refl w.heap.size w
                replace B := thenB B (belowA w (.cells #[.int .i64 a.c, .int .i64 a.b, .int .i64 a.m, .int .i64 a.g] 28))
                have VA := V.new w [.int .i64 a.c, .int .i64 a.b, .int .i64 a.m, .int .i64 a.g] 28
                replace VA := VA.kept (belowA (w.alloc (.cells #[.int .i64 a.c, .int .i64 a.b, .int .i64 a.m, .int .i64 a.g] 28)) (.cells #[.int .i64 b.c, .int .i64 b.b, .int .i64 b.m, .int .i64 b.g] 28))
                replace B := thenB B (belowA (w.alloc (.cells #[.int .i64 a.c, .int .i64 a.b, .int .i64 a.m, .int .i64 a.g] 28)) (.cells #[.int .i64 b.c, .int .i64 b.b, .int .i64 b.m, .int .i64 b.g] 28))
                have VB : V ((w.alloc (.cells #[.int .i64 a.c, .int .i64 a.b, .int .i64 a.m, .int .i64 a.g] 28)).alloc (.cells #[.int .i64 b.c, .int .i64 b.b, .int .i64 b.m, .int .i64 b.g] 28)) (w.heap.size + 1) [.int .i64 b.c, .int .i64 b.b, .int .i64 b.m, .int .i64 b.g] := V.newAt _ _ _ _ (by simp)
                obtain ⟨s_VA, f_VA, z_VA⟩ := VA.open
                obtain ⟨s_VB, f_VB, z_VB⟩ := VB.open
                have Bo := B
                go_wp2_with fail
                refine (CA.out _).mono ?_
                rintro e w1 ⟨rfl, b1⟩
                clear s_VA f_VA z_VA s_VB f_VB z_VB
                have S1 := b1.size
                simp only [World.size_alloc] at S1
                replace VA := VA.kept b1
                replace VB := VB.kept b1
                replace B := thenB B b1
                clear b1
                obtain ⟨s_VA, f_VA, z_VA⟩ := VA.open
                obtain ⟨s_VB, f_VB, z_VB⟩ := VB.open
                have Bo := B
                go_wp2_with fail
                refine (CB.out _).mono ?_
                rintro e w2 ⟨rfl, b2⟩
                clear s_VA f_VA z_VA s_VB f_VB z_VB
                have S2 := b2.size
                replace VA := VA.kept b2
                replace VB := VB.kept b2
                replace B := thenB B b2
                clear b2
                obtain ⟨s_VA, f_VA, z_VA⟩ := VA.open
                obtain ⟨s_VB, f_VB, z_VB⟩ := VB.open
                have Bo := B
                go_wp2
                go_ret
                exact ⟨rfl, Bo⟩
              · skip
                rw [show wkB a b = true by simp only [wkB, leSu, ha, hb, decide_eq_false he, hc, hb', hm, hg, Bool.not_false, Bool.and_self]]
                clear ha hb he
                go_enter Try.func35, Try.ntmps35
                have B := Below.refl w.heap.size w
                replace B := thenB B (belowA w (.cells #[.int .i64 a.c, .int .i64 a.b, .int .i64 a.m, .int .i64 a.g] 28))
                have VA := V.new w [.int .i64 a.c, .int .i64 a.b, .int .i64 a.m, .int .i64 a.g] 28
                replace VA := VA.kept (belowA (w.alloc (.cells #[.int .i64 a.c, .int .i64 a.b, .int .i64 a.m, .int .i64 a.g] 28)) (.cells #[.int .i64 b.c, .int .i64 b.b, .int .i64 b.m, .int .i64 b.g] 28))
                replace B := thenB B (belowA (w.alloc (.cells #[.int .i64 a.c, .int .i64 a.b, .int .i64 a.m, .int .i64 a.g] 28)) (.cells #[.int .i64 b.c, .int .i64 b.b, .int .i64 b.m, .int .i64 b.g] 28))
                have VB : V ((w.alloc (.cells #[.int .i64 a.c, .int .i64 a.b, .int .i64 a.m, .int .i64 a.g] 28)).alloc (.cells #[.int .i64 b.c, .int .i64 b.b, .int .i64 b.m, .int .i64 b.g] 28)) (w.heap.size + 1) [.int .i64 b.c, .int .i64 b.b, .int .i64 b.m, .int .i64 b.g] := V.newAt _ _ _ _ (by simp)
                obtain ⟨s_VA, f_VA, z_VA⟩ := VA.open
                obtain ⟨s_VB, f_VB, z_VB⟩ := VB.open
                have Bo := B
                go_wp2_with fail
                refine (CA.out _).mono ?_
                rintro e w1 ⟨rfl, b1⟩
                clear s_VA f_VA z_VA s_VB f_VB z_VB
                have S1 := b1.size
                simp only [World.size_alloc] at S1
                replace VA := VA.kept b1
                replace VB := VB.kept b1
                replace B := thenB B b1
                clear b1
                obtain ⟨s_VA, f_VA, z_VA⟩ := VA.open
                obtain ⟨s_VB, f_VB, z_VB⟩ := VB.open
                have Bo := B
                go_wp2_with fail
                refine (CB.out _).mono ?_
                rintro e w2 ⟨rfl, b2⟩
                clear s_VA f_VA z_VA s_VB f_VB z_VB
                have S2 := b2.size
                replace VA := VA.kept b2
                replace VB := VB.kept b2
                replace B := thenB B b2
                clear b2
                obtain ⟨s_VA, f_VA, z_VA⟩ := VA.open
                obtain ⟨s_VB, f_VB, z_VB⟩ := VB.open
                have Bo := B
                go_wp2
                go_ret
                exact ⟨rfl, Bo⟩

set_option maxRecDepth 20000 in
set_option maxHeartbeats 2000000 in
theorem l8Rank_ok (x : Su) (hx : okSu x = true) (w : World) :
    Calls Try.prog 60 #[.agg #[.int .i64 x.c, .int .i64 x.b, .int .i64 x.m, .int .i64 x.g]] w fun e w' => e = .returned (.int .i64 (rkI x)) ∧ Below w.heap.size w w' := by
  rw [okSu_iff] at hx
  obtain ⟨⟨c1, c2⟩, hb, ⟨m1, m2⟩, g1, g2⟩ := hx
  have b1 : 128 ≤ x.b := by omega
  have b2 : x.b ≤ 256 := by omega
  have d1 : 1280 ≤ x.b * 10 := by omega
  have d2 : x.b * 10 ≤ 2560 := by omega
  have e1 : 1281 ≤ x.b * 10 + x.g := by omega
  have e2 : x.b * 10 + x.g ≤ 2566 := by omega
  have f1 : 12810 ≤ (x.b * 10 + x.g) * 10 := by omega
  have f2 : (x.b * 10 + x.g) * 10 ≤ 25660 := by omega
  have k1 : 12811 ≤ (x.b * 10 + x.g) * 10 + x.m := by omega
  have k2 : (x.b * 10 + x.g) * 10 + x.m ≤ 25663 := by omega
  have l1 : 128110 ≤ ((x.b * 10 + x.g) * 10 + x.m) * 10 := by omega
  have l2 : ((x.b * 10 + x.g) * 10 + x.m) * 10 ≤ 256630 := by omega
  clear hb
  go_enter Try.func60, Try.ntmps60
  go_wp2
  go_ret
  exact ⟨rfl, belowA _ _⟩

set_option maxRecDepth 20000 in
set_option maxHeartbeats 2000000 in
theorem placedIn_ok (a : Option Addr) (n ca : Nat) (xs : List Su) (v : Su) (w : World) (ha : RdSuite w a xs) (hn : xs.length = n) (hx : n ≤ maxLen) :
    Calls Try.prog 46 #[.slice a n ca, .agg #[.int .i64 v.c, .int .i64 v.b, .int .i64 v.m, .int .i64 v.g]] w fun e w' => e = .returned (.agg #[.int .i64 0, .int .i64 (atSu xs v 0), .int .i64 v.c, .int .i64 v.b, .int .i64 v.m, .int .i64 v.g]) ∧ Below w.heap.size w w' := by
  go_enter Try.func46, Try.ntmps46
  have B := Below.refl w.heap.size w
  replace B := thenB B (belowA w (.cells #[.int .i64 v.c, .int .i64 v.b, .int .i64 v.m, .int .i64 v.g] 28))
  have VA := V.new w [.int .i64 v.c, .int .i64 v.b, .int .i64 v.m, .int .i64 v.g] 28
  replace VA := VA.kept (belowA (w.alloc (.cells #[.int .i64 v.c, .int .i64 v.b, .int .i64 v.m, .int .i64 v.g] 28)) (.cells #[.int .i64 0, .int .i64 0, .int .i64 0, .int .i64 0, .int .i64 0, .int .i64 0] 30))
  replace B := thenB B (belowA (w.alloc (.cells #[.int .i64 v.c, .int .i64 v.b, .int .i64 v.m, .int .i64 v.g] 28)) (.cells #[.int .i64 0, .int .i64 0, .int .i64 0, .int .i64 0, .int .i64 0, .int .i64 0] 30))
  have VR : V ((w.alloc (.cells #[.int .i64 v.c, .int .i64 v.b, .int .i64 v.m, .int .i64 v.g] 28)).alloc (.cells #[.int .i64 0, .int .i64 0, .int .i64 0, .int .i64 0, .int .i64 0, .int .i64 0] 30)) (w.heap.size + 1) [.int .i64 0, .int .i64 0, .int .i64 0, .int .i64 0, .int .i64 0, .int .i64 0] := V.newAt _ _ _ _ (by simp)
  obtain ⟨s_VA, f_VA, z_VA⟩ := VA.open
  obtain ⟨s_VR, f_VR, z_VR⟩ := VR.open
  have Bo := B
  have hV := VA
  have K : ∀ w' : World, Below (w.heap.size + 1) ((w.alloc (.cells #[.int .i64 v.c, .int .i64 v.b, .int .i64 v.m, .int .i64 v.g] 28)).alloc (.cells #[.int .i64 0, .int .i64 0, .int .i64 0, .int .i64 0, .int .i64 0, .int .i64 0] 30)) w' → (w'.cell? ⟨w.heap.size, 0, none⟩ = some (.int .i64 v.c) ∧ w'.cell? ⟨w.heap.size, 1, none⟩ = some (.int .i64 v.b) ∧ w'.cell? ⟨w.heap.size, 2, none⟩ = some (.int .i64 v.m) ∧ w'.cell? ⟨w.heap.size, 3, none⟩ = some (.int .i64 v.g)) := fun w' h => ⟨(hV.keptB (by omega) h).2.1 0 (by simp), (hV.keptB (by omega) h).2.1 1 (by simp), (hV.keptB (by omega) h).2.1 2 (by simp), (hV.keptB (by omega) h).2.1 3 (by simp)⟩
  clear hV
  have K := Hid.mk K
  have hsz : w.heap.size + 1 ≤ ((w.alloc (.cells #[.int .i64 v.c, .int .i64 v.b, .int .i64 v.m, .int .i64 v.g] 28)).alloc (.cells #[.int .i64 0, .int .i64 0, .int .i64 0, .int .i64 0, .int .i64 0, .int .i64 0] 30)).heap.size := by simp
  have RA := Hid.mk (fun w' (h : Below w.heap.size w w') => ha.kept h)
  clear s_VA f_VA z_VA s_VR f_VR z_VR
  go_upto_region 1 with fail
  refine wp_region_held_drew (S := (fun w' => w'.cell? ⟨w.heap.size, 0, none⟩ = some (.int .i64 v.c) ∧ w'.cell? ⟨w.heap.size, 1, none⟩ = some (.int .i64 v.b) ∧ w'.cell? ⟨w.heap.size, 2, none⟩ = some (.int .i64 v.m) ∧ w'.cell? ⟨w.heap.size, 3, none⟩ = some (.int .i64 v.g))) (by kernel_rfl) (K.out _ ((Below.refl _ _).drew)) (fun hHeld => ?_)
  refine wpAnyH_take (i := 0) (oi := _) (v := ?vpu1) rfl (by kernel_rfl) (by kernel_rfl) (by kernel_rfl) (fun _ _ _ h => h) (Or.inl ⟨by kernel_rfl, ?hypu1⟩) hHeld ?restpu1
  case hypu1 => (intro w hSw; (try dsimp only at hSw); go_simp; first | done | with_reducible rfl)
  try simp only [Act.put, List.getElem_toArray, List.getElem_cons_zero, List.setIfInBounds_toArray, List.set_cons_zero, List.set_cons_succ]
  refine wpAnyH_take (i := 1) (oi := _) (v := ?vpu2) rfl (by kernel_rfl) (by kernel_rfl) (by kernel_rfl) (fun _ _ _ h => h) (Or.inl ⟨by kernel_rfl, ?hypu2⟩) hHeld ?restpu2
  case hypu2 => (intro w hSw; (try dsimp only at hSw); go_simp; first | done | with_reducible rfl)
  try simp only [Act.put, List.getElem_toArray, List.getElem_cons_zero, List.getElem_cons_succ, List.setIfInBounds_toArray, List.set_cons_zero, List.set_cons_succ]
  refine wpAnyH_take (i := 3) (oi := _) (v := ?vpu3) rfl (by kernel_rfl) (by kernel_rfl) (by kernel_rfl) (fun _ _ _ h => h) (Or.inl ⟨by kernel_rfl, ?hypu3⟩) hHeld ?restpu3
  case hypu3 => (intro w hSw; (try dsimp only at hSw); go_simp; first | done | with_reducible rfl)
  try simp only [Act.put, List.getElem_toArray, List.getElem_cons_zero, List.getElem_cons_succ, List.setIfInBounds_toArray, List.set_cons_zero, List.set_cons_succ]
  refine wpAnyH_ready (rs := [2]) (by kernel_rfl) (by simp) ?_
  refine AllReadyH.cons (o := _) rfl (fun K0 hK0 => ?_) AllReadyH.nil
  go_simp
  go_at_call 64
  refine (suIndex_ok a n ca xs v _ (RA.out _ (thenB B (Below.refl _ _).drew)) hn hx).mono ?_
  rintro e wpv4 ⟨rfl, bpv4⟩
  refine hK0.out _ _ (K.out _ (Below.mono (thenB (Below.refl _ _).drew bpv4) hsz)) (fun hHeld => ?_)
  clear hK0 K0
  try simp only [Act.put, List.getElem_toArray, List.getElem_cons_zero, List.getElem_cons_succ, List.setIfInBounds_toArray, List.set_cons_zero, List.set_cons_succ]
  refine wpAnyH_take (i := 4) (oi := _) (v := ?vpu5) rfl (by kernel_rfl) (by kernel_rfl) (by kernel_rfl) (fun _ _ _ h => h) (Or.inl ⟨by kernel_rfl, ?hypu5⟩) hHeld ?restpu5
  case hypu5 => (intro w hSw; (try dsimp only at hSw); go_simp; first | done | with_reducible rfl)
  try simp only [Act.put, List.getElem_toArray, List.getElem_cons_zero, List.getElem_cons_succ, List.setIfInBounds_toArray, List.set_cons_zero, List.set_cons_succ]
  have acc := (thenB (Below.refl _ _).drew bpv4)
  refine wpAnyH_ready (rs := [5]) (by kernel_rfl) (by simp) ?_
  refine AllReadyH.cons (o := _) rfl (fun K0 hK0 => ?_) AllReadyH.nil
  have VR1 := VR.kept acc
  have VF := Hid.mk (VR1.filled [.int .i64 0, .int .i64 (atSu xs v 0), .int .i64 v.c, .int .i64 v.b, .int .i64 v.m, .int .i64 v.g] rfl)
  have hT := VR1.there
  have bF := belowCells (acc.mono hsz) (Nat.le_refl (w.heap.size + 1)) 0 [.int .i64 0, .int .i64 (atSu xs v 0), .int .i64 v.c, .int .i64 v.b, .int .i64 v.m, .int .i64 v.g]
  have BF := Hid.mk (belowCells (thenB B acc) (Nat.le_succ w.heap.size) 0 [.int .i64 0, .int .i64 (atSu xs v 0), .int .i64 v.c, .int .i64 v.b, .int .i64 v.m, .int .i64 v.g])
  refine wp_store_mid _ _ _ rfl (w.heap.size + 1) 0 #[.int .i64 0, .int .i64 (atSu xs v 0), .int .i64 v.c, .int .i64 v.b, .int .i64 v.m, .int .i64 v.g] rfl rfl hT (by kernel_rfl) (by kernel_rfl) ?_
  refine hK0.out _ _ (K.out _ bF) (fun hHeld => ?_)
  clear hK0 K0
  refine wpAnyH_done (by kernel_rfl) ?_ _
  go_wp2
  refine bodyPost_ret (v := .agg #[.int .i64 0, .int .i64 (atSu xs v 0), .int .i64 v.c, .int .i64 v.b, .int .i64 v.m, .int .i64 v.g]) (results_row Try.results46 _ _ (w.heap.size + 1) [.int .i64 0, .int .i64 (atSu xs v 0), .int .i64 v.c, .int .i64 v.b, .int .i64 v.m, .int .i64 v.g] _ rfl VF.out Try.underlying30 rfl (by kernel_rfl)) rfl ⟨rfl, BF.out⟩

end Go.Proofs.Ythaaompkcomfcaa
