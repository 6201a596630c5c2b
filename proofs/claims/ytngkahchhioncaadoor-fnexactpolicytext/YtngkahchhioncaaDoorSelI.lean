/- Small parts of chapter 3. -/
import Derived.Test.YtngkahchhioncaaDoorSelE
namespace Go.Proofs.YtngkahchhioncaaDoor
open Go.RowKit

/-- A protocol takes another one. -/
@[irreducible] def tkP (t p : Int) : Bool := (t == 0) || (t == p)

theorem tkP_iff {t p : Int} : tkP t p = true ↔ t = 0 ∨ t = p := by unfold tkP; simp

/-- The narrower one of two protocols. -/
@[irreducible] def nwP (a b : Int) : Int := if a = 0 then b else a

set_option maxHeartbeats 400000 in
theorem takesProto_ok (t p : Int) (w : World) :
    Calls Tryd.prog 61 #[.int .i64 t, .int .i64 p] w fun e w' => e = .returned (.bool (tkP t p)) ∧ w' = w := by
  by_cases h1 : t = 0
  · have h2 : (t == 0) = true := by simp [h1]
    have hr : tkP t p = true := by rw [tkP_iff]; exact .inl h1
    rw [hr]
    clear hr h1
    go_enter Tryd.func61, Tryd.ntmps61
    go_wp2
    go_ret
    exact ⟨rfl, rfl⟩
  · have h2 : (t == 0) = false := by simp [h1]
    have hr : tkP t p = (t == p) := by unfold tkP; rw [h2]; rfl
    rw [hr]
    clear hr h1
    go_enter Tryd.func61, Tryd.ntmps61
    go_wp2
    go_ret
    exact ⟨rfl, rfl⟩

set_option maxHeartbeats 400000 in
theorem narrowerProto_ok (a b : Int) (w : World) :
    Calls Tryd.prog 136 #[.int .i64 a, .int .i64 b] w fun e w' => e = .returned (.int .i64 (nwP a b)) ∧ w' = w := by
  by_cases h1 : a = 0
  · have hr : nwP a b = b := by unfold nwP; rw [if_pos h1]
    have h2 : (a == 0) = true := by simp [h1]
    rw [hr]
    clear hr h1
    go_enter Tryd.func136, Tryd.ntmps136
    go_wp2
    go_ret
    exact ⟨rfl, rfl⟩
  · have hr : nwP a b = a := by unfold nwP; rw [if_neg h1]
    have h2 : (a == 0) = false := by simp [h1]
    rw [hr]
    clear hr h1
    go_enter Tryd.func136, Tryd.ntmps136
    go_wp2
    go_ret
    exact ⟨rfl, rfl⟩

set_option maxHeartbeats 400000 in
theorem holdPortNought_ok (a0 a1 a2 a3 a4 a5 a6 a7 : Int) (w : World) :
    Calls Tryd.prog 137 #[.agg #[.int .i64 a0, .int .i64 a1, .int .i64 a2, .int .i64 a3, .int .i64 a4, .int .i64 a5, .int .i64 a6, .int .i64 a7]] w fun e w' => e = .returned (.bool ((a4 == 0) && (a6 == 0))) ∧ Below w.heap.size w w' := by
  by_cases h1 : a4 = 0
  · have h2 : (a4 == 0) = true := by simp [h1]
    rw [h2]
    clear h1
    go_enter Tryd.func137, Tryd.ntmps137
    go_wp2
    go_ret
    exact ⟨rfl, belowA _ _⟩
  · have h2 : (a4 == 0) = false := by simp [h1]
    rw [h2]
    clear h1
    go_enter Tryd.func137, Tryd.ntmps137
    go_wp2
    go_ret
    exact ⟨rfl, belowA _ _⟩

theorem build_rng (a b : Int) (w : World) : (Instr.build 30 #[(0, .int .i64 a), (1, .int .i64 b)]).run Tryd.prog w = .ok (.agg #[.int .i64 a, .int .i64 b]) w := run_build w 30 _ _ (by kernel_rfl)

theorem build_sel (x : S9) (w : World) : (Instr.build 32 #[(0, .agg #[.int .i64 x.a, .int .i64 x.b]), (1, .agg #[.int .i64 x.c, .int .i64 x.d]), (2, .agg #[.int .i64 x.e, .int .i64 x.f]), (3, .agg #[.int .i64 x.g, .int .i64 x.h]), (4, .int .i64 x.r)]).run Tryd.prog w = .ok (.agg #[.int .i64 x.a, .int .i64 x.b, .int .i64 x.c, .int .i64 x.d, .int .i64 x.e, .int .i64 x.f, .int .i64 x.g, .int .i64 x.h, .int .i64 x.r]) w := run_build w 32 _ _ (by kernel_rfl)

set_option maxHeartbeats 1000000 in
theorem rangeOf_ok (a b : Int) (w : World) :
    Calls Tryd.prog 155 #[.agg #[.int .i64 a, .int .i64 b]] w fun e w' => e = .returned (.agg #[.int .i64 a, .int .i64 b]) ∧ Below w.heap.size w w' := by
  have q := build_rng a b
  go_enter Tryd.func155, Tryd.ntmps155
  go_wp2
  refine bodyPost_ret (v := .agg #[.int .i64 a, .int .i64 b]) (by simp [results, Tryd.results155, go_sem]) rfl ⟨rfl, ?_⟩
  repeat' first | with_reducible exact Below.refl _ _ | with_reducible refine Below.setCell ?_ ?_ _ | with_reducible refine Below.alloc ?_ ?_ _ | (simp; try omega)

set_option maxHeartbeats 4000000 in
theorem selOf_ok (x : S9) (w : World) :
    Calls Tryd.prog 138 #[.agg #[.int .i64 x.a, .int .i64 x.b, .int .i64 x.c, .int .i64 x.d, .int .i64 x.e, .int .i64 x.f, .int .i64 x.g, .int .i64 x.h], .int .i64 x.r] w fun e w' => e = .returned (.agg #[.int .i64 x.a, .int .i64 x.b, .int .i64 x.c, .int .i64 x.d, .int .i64 x.e, .int .i64 x.f, .int .i64 x.g, .int .i64 x.h, .int .i64 x.r]) ∧ Below w.heap.size w w' := by
  have q := build_sel x
  go_enter Tryd.func138, Tryd.ntmps138
  have VX := (V.new w [.int .i64 x.a, .int .i64 x.b, .int .i64 x.c, .int .i64 x.d, .int .i64 x.e, .int .i64 x.f, .int .i64 x.g, .int .i64 x.h] 92).kept (belowA _ (.cells #[.int .i64 0, .int .i64 0, .int .i64 0, .int .i64 0, .int .i64 0, .int .i64 0, .int .i64 0, .int .i64 0, .int .i64 0] 32))
  have VR : V ((w.alloc (.cells #[.int .i64 x.a, .int .i64 x.b, .int .i64 x.c, .int .i64 x.d, .int .i64 x.e, .int .i64 x.f, .int .i64 x.g, .int .i64 x.h] 92)).alloc (.cells #[.int .i64 0, .int .i64 0, .int .i64 0, .int .i64 0, .int .i64 0, .int .i64 0, .int .i64 0, .int .i64 0, .int .i64 0] 32)) (w.heap.size + 1) [.int .i64 0, .int .i64 0, .int .i64 0, .int .i64 0, .int .i64 0, .int .i64 0, .int .i64 0, .int .i64 0, .int .i64 0] := V.newAt _ _ _ _ (by simp)
  have B := belowA2 w (.cells #[.int .i64 x.a, .int .i64 x.b, .int .i64 x.c, .int .i64 x.d, .int .i64 x.e, .int .i64 x.f, .int .i64 x.g, .int .i64 x.h] 92) (.cells #[.int .i64 0, .int .i64 0, .int .i64 0, .int .i64 0, .int .i64 0, .int .i64 0, .int .i64 0, .int .i64 0, .int .i64 0] 32)
  have K : ∀ w' : World, Below _ _ w' → (w'.cell? ⟨w.heap.size, 0, none⟩ = some (.int .i64 x.a) ∧ w'.cell? ⟨w.heap.size, 1, none⟩ = some (.int .i64 x.b) ∧ w'.cell? ⟨w.heap.size, 2, none⟩ = some (.int .i64 x.c) ∧ w'.cell? ⟨w.heap.size, 3, none⟩ = some (.int .i64 x.d) ∧ w'.cell? ⟨w.heap.size, 4, none⟩ = some (.int .i64 x.e) ∧ w'.cell? ⟨w.heap.size, 5, none⟩ = some (.int .i64 x.f) ∧ w'.cell? ⟨w.heap.size, 6, none⟩ = some (.int .i64 x.g) ∧ w'.cell? ⟨w.heap.size, 7, none⟩ = some (.int .i64 x.h)) := fun w' h => ⟨(VX.kept h).2.1 0 (by simp), (VX.kept h).2.1 1 (by simp), (VX.kept h).2.1 2 (by simp), (VX.kept h).2.1 3 (by simp), (VX.kept h).2.1 4 (by simp), (VX.kept h).2.1 5 (by simp), (VX.kept h).2.1 6 (by simp), (VX.kept h).2.1 7 (by simp)⟩
  have K := Hid.mk K
  clear VX
  go_wp2_with fail
  refine wp_region_held_drew (S := (fun w' => w'.cell? ⟨w.heap.size, 0, none⟩ = some (.int .i64 x.a) ∧ w'.cell? ⟨w.heap.size, 1, none⟩ = some (.int .i64 x.b) ∧ w'.cell? ⟨w.heap.size, 2, none⟩ = some (.int .i64 x.c) ∧ w'.cell? ⟨w.heap.size, 3, none⟩ = some (.int .i64 x.d) ∧ w'.cell? ⟨w.heap.size, 4, none⟩ = some (.int .i64 x.e) ∧ w'.cell? ⟨w.heap.size, 5, none⟩ = some (.int .i64 x.f) ∧ w'.cell? ⟨w.heap.size, 6, none⟩ = some (.int .i64 x.g) ∧ w'.cell? ⟨w.heap.size, 7, none⟩ = some (.int .i64 x.h))) (by kernel_rfl) (K.out _ (Below.refl _ _).drew) (fun hHeld => ?_)
  refine wpAnyH_take (i := 0) (oi := _) (v := ?vmu1) rfl (by kernel_rfl) (by kernel_rfl) (by kernel_rfl) (fun _ _ _ h => h) (Or.inl ⟨by rfl, ?hymu1⟩) hHeld ?restmu1
  case hymu1 => (intro w hSw; (try dsimp only at hSw); go_simp; first | done | with_reducible rfl)
  try simp only [Act.put, List.getElem_toArray, List.getElem_cons_zero, List.setIfInBounds_toArray, List.set_cons_zero, List.set_cons_succ]
  refine wpAnyH_take (i := 1) (oi := _) (v := ?vmu2) rfl (by kernel_rfl) (by kernel_rfl) (by kernel_rfl) (fun _ _ _ h => h) (Or.inl ⟨by rfl, ?hymu2⟩) hHeld ?restmu2
  case hymu2 => (intro w hSw; (try dsimp only at hSw); go_simp; first | done | with_reducible rfl)
  try simp only [Act.put, List.getElem_toArray, List.getElem_cons_zero, List.getElem_cons_succ, List.setIfInBounds_toArray, List.set_cons_zero, List.set_cons_succ]
  refine wpAnyH_take (i := 3) (oi := _) (v := ?vmu3) rfl (by kernel_rfl) (by kernel_rfl) (by kernel_rfl) (fun _ _ _ h => h) (Or.inl ⟨by rfl, ?hymu3⟩) hHeld ?restmu3
  case hymu3 => (intro w hSw; (try dsimp only at hSw); go_simp; first | done | with_reducible rfl)
  try simp only [Act.put, List.getElem_toArray, List.getElem_cons_zero, List.getElem_cons_succ, List.setIfInBounds_toArray, List.set_cons_zero, List.set_cons_succ]
  refine wpAnyH_take (i := 4) (oi := _) (v := ?vmu4) rfl (by kernel_rfl) (by kernel_rfl) (by kernel_rfl) (fun _ _ _ h => h) (Or.inl ⟨by rfl, ?hymu4⟩) hHeld ?restmu4
  case hymu4 => (intro w hSw; (try dsimp only at hSw); go_simp; first | done | with_reducible rfl)
  try simp only [Act.put, List.getElem_toArray, List.getElem_cons_zero, List.getElem_cons_succ, List.setIfInBounds_toArray, List.set_cons_zero, List.set_cons_succ]
  refine wpAnyH_take (i := 6) (oi := _) (v := ?vmu5) rfl (by kernel_rfl) (by kernel_rfl) (by kernel_rfl) (fun _ _ _ h => h) (Or.inl ⟨by rfl, ?hymu5⟩) hHeld ?restmu5
  case hymu5 => (intro w hSw; (try dsimp only at hSw); go_simp; first | done | with_reducible rfl)
  try simp only [Act.put, List.getElem_toArray, List.getElem_cons_zero, List.getElem_cons_succ, List.setIfInBounds_toArray, List.set_cons_zero, List.set_cons_succ]
  refine wpAnyH_take (i := 7) (oi := _) (v := ?vmu6) rfl (by kernel_rfl) (by kernel_rfl) (by kernel_rfl) (fun _ _ _ h => h) (Or.inl ⟨by rfl, ?hymu6⟩) hHeld ?restmu6
  case hymu6 => (intro w hSw; (try dsimp only at hSw); go_simp; first | done | with_reducible rfl)
  try simp only [Act.put, List.getElem_toArray, List.getElem_cons_zero, List.getElem_cons_succ, List.setIfInBounds_toArray, List.set_cons_zero, List.set_cons_succ]
  refine wpAnyH_take (i := 9) (oi := _) (v := ?vmu7) rfl (by kernel_rfl) (by kernel_rfl) (by kernel_rfl) (fun _ _ _ h => h) (Or.inl ⟨by rfl, ?hymu7⟩) hHeld ?restmu7
  case hymu7 => (intro w hSw; (try dsimp only at hSw); go_simp; first | done | with_reducible rfl)
  try simp only [Act.put, List.getElem_toArray, List.getElem_cons_zero, List.getElem_cons_succ, List.setIfInBounds_toArray, List.set_cons_zero, List.set_cons_succ]
  refine wpAnyH_take (i := 10) (oi := _) (v := ?vmu8) rfl (by kernel_rfl) (by kernel_rfl) (by kernel_rfl) (fun _ _ _ h => h) (Or.inl ⟨by rfl, ?hymu8⟩) hHeld ?restmu8
  case hymu8 => (intro w hSw; (try dsimp only at hSw); go_simp; first | done | with_reducible rfl)
  try simp only [Act.put, List.getElem_toArray, List.getElem_cons_zero, List.getElem_cons_succ, List.setIfInBounds_toArray, List.set_cons_zero, List.set_cons_succ]
  refine wpAnyH_take (i := 12) (oi := _) (v := ?vmu9) rfl (by kernel_rfl) (by kernel_rfl) (by kernel_rfl) (fun _ _ _ h => h) (Or.inl ⟨by rfl, ?hymu9⟩) hHeld ?restmu9
  case hymu9 => (intro w hSw; (try dsimp only at hSw); go_simp; first | done | with_reducible rfl)
  try simp only [Act.put, List.getElem_toArray, List.getElem_cons_zero, List.getElem_cons_succ, List.setIfInBounds_toArray, List.set_cons_zero, List.set_cons_succ]
  refine wpAnyH_ready (rs := [2]) (by kernel_rfl) (by simp) ?_
  refine AllReadyH.cons (o := _) rfl (fun K0 hK0 => ?_) AllReadyH.nil
  go_simp
  go_at_call 155
  refine (rangeOf_ok x.a x.b _).mono ?_
  rintro e wmv10 ⟨rfl, bmv10⟩
  refine hK0.out _ _ (K.out _ (thenB (Below.refl _ _).drew bmv10)) (fun hHeld => ?_)
  clear hK0 K0
  try simp only [Act.put, List.getElem_toArray, List.getElem_cons_zero, List.getElem_cons_succ, List.setIfInBounds_toArray, List.set_cons_zero, List.set_cons_succ]
  refine wpAnyH_ready (rs := [5]) (by kernel_rfl) (by simp) ?_
  refine AllReadyH.cons (o := _) rfl (fun K0 hK0 => ?_) AllReadyH.nil
  go_simp
  go_at_call 155
  refine (rangeOf_ok x.c x.d _).mono ?_
  rintro e wmv11 ⟨rfl, bmv11⟩
  refine hK0.out _ _ (K.out _ (thenB (thenB (Below.refl _ _).drew bmv10) bmv11)) (fun hHeld => ?_)
  clear hK0 K0
  try simp only [Act.put, List.getElem_toArray, List.getElem_cons_zero, List.getElem_cons_succ, List.setIfInBounds_toArray, List.set_cons_zero, List.set_cons_succ]
  refine wpAnyH_ready (rs := [8]) (by kernel_rfl) (by simp) ?_
  refine AllReadyH.cons (o := _) rfl (fun K0 hK0 => ?_) AllReadyH.nil
  go_simp
  go_at_call 155
  refine (rangeOf_ok x.e x.f _).mono ?_
  rintro e wmv12 ⟨rfl, bmv12⟩
  refine hK0.out _ _ (K.out _ (thenB (thenB (thenB (Below.refl _ _).drew bmv10) bmv11) bmv12)) (fun hHeld => ?_)
  clear hK0 K0
  try simp only [Act.put, List.getElem_toArray, List.getElem_cons_zero, List.getElem_cons_succ, List.setIfInBounds_toArray, List.set_cons_zero, List.set_cons_succ]
  refine wpAnyH_ready (rs := [11]) (by kernel_rfl) (by simp) ?_
  refine AllReadyH.cons (o := _) rfl (fun K0 hK0 => ?_) AllReadyH.nil
  go_simp
  go_at_call 155
  refine (rangeOf_ok x.g x.h _).mono ?_
  rintro e wmv13 ⟨rfl, bmv13⟩
  refine hK0.out _ _ (K.out _ (thenB (thenB (thenB (thenB (Below.refl _ _).drew bmv10) bmv11) bmv12) bmv13)) (fun hHeld => ?_)
  clear hK0 K0
  try simp only [Act.put, List.getElem_toArray, List.getElem_cons_zero, List.getElem_cons_succ, List.setIfInBounds_toArray, List.set_cons_zero, List.set_cons_succ]
  refine wpAnyH_take (i := 13) (oi := _) (v := ?vmu14) rfl (by kernel_rfl) (by kernel_rfl) (by kernel_rfl) (fun _ _ _ h => h) (Or.inl ⟨by rfl, ?hymu14⟩) hHeld ?restmu14
  case hymu14 => (intro w hSw; (try dsimp only at hSw); go_simp; first | done | with_reducible rfl)
  try simp only [Act.put, List.getElem_toArray, List.getElem_cons_zero, List.getElem_cons_succ, List.setIfInBounds_toArray, List.set_cons_zero, List.set_cons_succ]
  have B := thenB B (thenB (thenB (thenB (thenB (Below.refl _ _).drew bmv10) bmv11) bmv12) bmv13)
  have VR := VR.kept (thenB (thenB (thenB (thenB (Below.refl _ _).drew bmv10) bmv11) bmv12) bmv13)
  obtain ⟨_, fR, zR⟩ := VR.open
  refine wpAnyH_ready (rs := [14]) (by kernel_rfl) (by simp) ?_
  refine AllReadyH.cons (o := _) rfl (fun K0 hK0 => ?_) AllReadyH.nil
  go_simp
  refine hK0.out _ _ (by simpa [go_sem] using hHeld) (fun hHeld => ?_)
  clear hK0 K0
  try simp only [Act.put, List.getElem_toArray, List.getElem_cons_zero, List.getElem_cons_succ, List.setIfInBounds_toArray, List.set_cons_zero, List.set_cons_succ]
  refine wpAnyH_done (by kernel_rfl) ?_ _
  clear K
  go_wp2
  refine bodyPost_ret (v := .agg #[.int .i64 x.a, .int .i64 x.b, .int .i64 x.c, .int .i64 x.d, .int .i64 x.e, .int .i64 x.f, .int .i64 x.g, .int .i64 x.h, .int .i64 x.r]) (by simp [results, Tryd.results138, go_sem, fR]) rfl ⟨rfl, ?_⟩
  repeat' first | with_reducible exact B | with_reducible refine Below.setCell ?_ ?_ _ | with_reducible refine Below.alloc ?_ ?_ _ | (simp; try omega)

end Go.Proofs.YtngkahchhioncaaDoor
