/- Terms: the fault of a term: the program. -/
import Derived.Test.YthjaehcfakjemaaDoorTmL
import Derived.Deep.RegionHeld3
namespace Go.Proofs.YthjaehcfakjemaaDoor
open Go.RowKit

theorem plc_len (t : T4) : (plc t).length ≤ 2 := by
  unfold plc
  split
  · simp
  · split <;> simp

theorem plsOk_plc (m : Nat) (t : T4) : tmRange m t = (!btw t.n 0 9999 || !plsOk m (plc t)) := by
  unfold tmRange plsOk plc
  rcases kids_cases t.o with h | h | h <;> rw [h] <;> simp

theorem sec_plc {xs : List T4} {t : T4} (h : ofSec t.o = true) : tmSec xs t = !(allFr xs (plc t) && srtB (plc t)) := by
  unfold tmSec allFr plc
  rcases ofSec_iff.1 h with e | e
  · rw [e, kids6, Bool.eq_iff_iff]; simp [srtB]
  · rw [e, kids7, Bool.eq_iff_iff]; simp [srtB]; omega

theorem tp_ways (xs : List T4) (t : T4) : (btw t.o 1 7 = false ∧ tmC xs t = 5) ∨ (btw t.o 1 7 = true ∧ teq t (brT t) = false ∧ tmC xs t = 1)
    ∨ (btw t.o 1 7 = true ∧ teq t (brT t) = true ∧ btw t.n 0 9999 = false ∧ tmC xs t = 3)
    ∨ (btw t.o 1 7 = true ∧ teq t (brT t) = true ∧ btw t.n 0 9999 = true ∧ plsOk xs.length (plc t) = false ∧ tmC xs t = 3)
    ∨ (btw t.o 1 7 = true ∧ teq t (brT t) = true ∧ btw t.n 0 9999 = true ∧ plsOk xs.length (plc t) = true ∧ ofSec t.o = false ∧ tmC xs t = 0)
    ∨ (btw t.o 1 7 = true ∧ teq t (brT t) = true ∧ btw t.n 0 9999 = true ∧ plsOk xs.length (plc t) = true ∧ ofSec t.o = true ∧ (allFr xs (plc t) && srtB (plc t)) = false ∧ tmC xs t = 1)
    ∨ (btw t.o 1 7 = true ∧ teq t (brT t) = true ∧ btw t.n 0 9999 = true ∧ plsOk xs.length (plc t) = true ∧ ofSec t.o = true ∧ (allFr xs (plc t) && srtB (plc t)) = true ∧ tmC xs t = 0) := by
  have hb := @brT_form t
  have hp := plsOk_plc xs.length t
  have hs := @sec_plc xs t
  rcases tm_ways xs t with ⟨h1, h⟩ | ⟨h1, h2, h⟩ | ⟨h1, h2, h3, h⟩ | ⟨h1, h2, h3, h4, h⟩ | ⟨h1, h2, h3, h4, h5, h⟩ | ⟨h1, h2, h3, h4, h5, h⟩
  · exact .inl ⟨h1, h⟩
  · rw [h2] at hb; exact .inr (.inl ⟨h1, by simpa using hb h1, h⟩)
  all_goals
    rw [h2] at hb
    rw [h3] at hp
    have hb2 : teq t (brT t) = true := by simpa using hb h1
  · cases h6 : btw t.n 0 9999
    · exact .inr (.inr (.inl ⟨h1, hb2, rfl, h⟩))
    · rw [h6] at hp; exact .inr (.inr (.inr (.inl ⟨h1, hb2, rfl, by simpa using hp, h⟩)))
  all_goals
    have hp2 : btw t.n 0 9999 = true ∧ plsOk xs.length (plc t) = true := by
      cases h6 : btw t.n 0 9999 <;> cases h7 : plsOk xs.length (plc t) <;> rw [h6, h7] at hp <;> simp at hp ⊢
  · exact .inr (.inr (.inr (.inr (.inl ⟨h1, hb2, hp2.1, hp2.2, h4, h⟩))))
  · have hs2 := hs h4
    rw [h5] at hs2
    exact .inr (.inr (.inr (.inr (.inr (.inl ⟨h1, hb2, hp2.1, hp2.2, h4, by revert hs2; cases allFr xs (plc t) <;> cases srtB (plc t) <;> simp, h⟩)))))
  · have hs2 := hs h4
    rw [h5] at hs2
    exact .inr (.inr (.inr (.inr (.inr (.inr ⟨h1, hb2, hp2.1, hp2.2, h4, by simpa using hs2, h⟩)))))

set_option maxHeartbeats 4000000 in
theorem termFault_ok (a : Option Addr) (m ca : Nat) (xs : List T4) (t : T4) (w : World) (hA : RdTerm w a xs) (hm : xs.length = m) (hx : m ≤ maxLen) :
    Calls Tryd.prog 44 #[.slice a m ca, .agg #[.int .i64 t.o, .int .i64 t.a, .int .i64 t.b, .int .i64 t.n]] w fun e w' => e = .returned (.int .i64 (tmC xs t)) ∧ Below w.heap.size w w' := by
  have hp := plc_len t
  have HW := tp_ways xs t
  rw [hm] at HW
  rcases HW with ⟨h1, hr⟩ | ⟨h1, h2, hr⟩ | ⟨h1, h2, h3, hr⟩ | ⟨h1, h2, h3, h4, hr⟩ | ⟨h1, h2, h3, h4, h5, hr⟩ | ⟨h1, h2, h3, h4, h5, h6, hr⟩ | ⟨h1, h2, h3, h4, h5, h6, hr⟩
  · skip
    rw [hr]
    clear hr
    go_enter Tryd.func44, Tryd.ntmps44
    have B := Below.refl w.heap.size w
    replace hA := hA.kept (belowA w (.cells #[.int .i64 t.o, .int .i64 t.a, .int .i64 t.b, .int .i64 t.n] 70))
    replace B := thenB B (belowA w (.cells #[.int .i64 t.o, .int .i64 t.a, .int .i64 t.b, .int .i64 t.n] 70))
    have VX := V.new w [.int .i64 t.o, .int .i64 t.a, .int .i64 t.b, .int .i64 t.n] 70
    obtain ⟨s_VX, f_VX, z_VX⟩ := VX.open
    have Bo := B
    go_wp2_with (first | (go_at_call 46; refine (isBetween_ok _ _ _ _).mono ?_; rintro e wq ⟨rfl, rfl⟩) | fail)
    go_ret
    exact ⟨rfl, Bo⟩
  · skip
    have HO := btw_iff.1 h1
    have q1 := eqTm0 t (brT t)
    rw [h2] at q1
    rw [hr]
    clear hr
    go_enter Tryd.func44, Tryd.ntmps44
    have B := Below.refl w.heap.size w
    replace hA := hA.kept (belowA w (.cells #[.int .i64 t.o, .int .i64 t.a, .int .i64 t.b, .int .i64 t.n] 70))
    replace B := thenB B (belowA w (.cells #[.int .i64 t.o, .int .i64 t.a, .int .i64 t.b, .int .i64 t.n] 70))
    have VX := V.new w [.int .i64 t.o, .int .i64 t.a, .int .i64 t.b, .int .i64 t.n] 70
    obtain ⟨s_VX, f_VX, z_VX⟩ := VX.open
    have Bo := B
    clear s_VX f_VX z_VX
    have K : ∀ w' : World, Below (w.alloc (.cells #[.int .i64 t.o, .int .i64 t.a, .int .i64 t.b, .int .i64 t.n] 70)).heap.size (w.alloc (.cells #[.int .i64 t.o, .int .i64 t.a, .int .i64 t.b, .int .i64 t.n] 70)) w' → (w'.cell? ⟨w.heap.size, 0, none⟩ = some (.int .i64 t.o) ∧ w'.cell? ⟨w.heap.size, 1, none⟩ = some (.int .i64 t.a) ∧ w'.cell? ⟨w.heap.size, 2, none⟩ = some (.int .i64 t.b) ∧ w'.cell? ⟨w.heap.size, 3, none⟩ = some (.int .i64 t.n)) := fun w' h => ⟨(VX.kept h).2.1 0 (by simp), (VX.kept h).2.1 1 (by simp), (VX.kept h).2.1 2 (by simp), (VX.kept h).2.1 3 (by simp)⟩
    have K := Hid.mk K
    go_wp2_with (first | (go_at_call 46; refine (isBetween_ok _ _ _ _).mono ?_; rintro e wq ⟨rfl, rfl⟩) | fail)
    refine wp_region_held_drew (S := (fun w' => w'.cell? ⟨w.heap.size, 0, none⟩ = some (.int .i64 t.o) ∧ w'.cell? ⟨w.heap.size, 1, none⟩ = some (.int .i64 t.a) ∧ w'.cell? ⟨w.heap.size, 2, none⟩ = some (.int .i64 t.b) ∧ w'.cell? ⟨w.heap.size, 3, none⟩ = some (.int .i64 t.n))) (by kernel_rfl) (K.out _ (Below.refl _ _).drew) (fun hHeld => ?_)
    refine wpAnyH_take (i := 0) (oi := _) (v := ?vz21u1) rfl (by kernel_rfl) (by kernel_rfl) (by kernel_rfl) (fun _ _ _ h => h) (Or.inl ⟨by rfl, ?hyz21u1⟩) hHeld ?restz21u1
    case hyz21u1 => (intro w hSw; (try dsimp only at hSw); go_simp; first | done | with_reducible rfl)
    try simp only [Act.put, List.getElem_toArray, List.getElem_cons_zero, List.setIfInBounds_toArray, List.set_cons_zero, List.set_cons_succ]
    refine wpAnyH_take (i := 1) (oi := _) (v := ?vz21u2) rfl (by kernel_rfl) (by kernel_rfl) (by kernel_rfl) (fun _ _ _ h => h) (Or.inl ⟨by rfl, ?hyz21u2⟩) hHeld ?restz21u2
    case hyz21u2 => (intro w hSw; (try dsimp only at hSw); go_simp; first | done | with_reducible rfl)
    try simp only [Act.put, List.getElem_toArray, List.getElem_cons_zero, List.getElem_cons_succ, List.setIfInBounds_toArray, List.set_cons_zero, List.set_cons_succ]
    refine wpAnyH_ready (rs := [2]) (by kernel_rfl) (by simp) ?_
    refine AllReadyH.cons (o := _) rfl (fun K0 hK0 => ?_) AllReadyH.nil
    go_simp
    go_at_call 66
    refine (bareTerm_ok t _).mono ?_
    rintro e wz21v3 ⟨r, hr, rfl, bz21v3⟩
    refine hK0.out _ _ (K.out _ (thenB (Below.refl _ _).drew bz21v3)) (fun hHeld => ?_)
    clear hK0 K0
    try simp only [Act.put, List.getElem_toArray, List.getElem_cons_zero, List.getElem_cons_succ, List.setIfInBounds_toArray, List.set_cons_zero, List.set_cons_succ]
    refine wpAnyH_take (i := 3) (oi := _) (v := ?vz21u4) rfl (by kernel_rfl) (by kernel_rfl) (by kernel_rfl) (fun _ _ _ h => h) (Or.inl ⟨by rfl, ?hyz21u4⟩) hHeld ?restz21u4
    case hyz21u4 => (intro w hSw; (try dsimp only at hSw); go_simp; first | done | with_reducible rfl)
    try simp only [Act.put, List.getElem_toArray, List.getElem_cons_zero, List.getElem_cons_succ, List.setIfInBounds_toArray, List.set_cons_zero, List.set_cons_succ]
    refine wpAnyH_done (by kernel_rfl) ?_ _
    clear K hHeld
    replace VX := VX.kept (thenB (Below.refl _ _).drew bz21v3)
    replace hA := hA.kept (thenB (Below.refl _ _).drew bz21v3)
    replace B := thenB B (thenB (Below.refl _ _).drew bz21v3)
    have Sz21 := ((thenB (Below.refl _ _).drew bz21v3)).size
    simp only [World.size_alloc] at Sz21
    clear bz21v3
    obtain ⟨s_VX, f_VX, z_VX⟩ := VX.open
    have Bo := B
    go_wp2_with (first | (go_at_call 46; refine (isBetween_ok _ _ _ _).mono ?_; rintro e wq ⟨rfl, rfl⟩) | fail)
    go_ret
    exact ⟨rfl, Bo⟩
  · skip
    have HO := btw_iff.1 h1
    have q1 := eqTm0 t (brT t)
    rw [h2] at q1
    rw [hr]
    clear hr
    go_enter Tryd.func44, Tryd.ntmps44
    have B := Below.refl w.heap.size w
    replace hA := hA.kept (belowA w (.cells #[.int .i64 t.o, .int .i64 t.a, .int .i64 t.b, .int .i64 t.n] 70))
    replace B := thenB B (belowA w (.cells #[.int .i64 t.o, .int .i64 t.a, .int .i64 t.b, .int .i64 t.n] 70))
    have VX := V.new w [.int .i64 t.o, .int .i64 t.a, .int .i64 t.b, .int .i64 t.n] 70
    obtain ⟨s_VX, f_VX, z_VX⟩ := VX.open
    have Bo := B
    clear s_VX f_VX z_VX
    have K : ∀ w' : World, Below (w.alloc (.cells #[.int .i64 t.o, .int .i64 t.a, .int .i64 t.b, .int .i64 t.n] 70)).heap.size (w.alloc (.cells #[.int .i64 t.o, .int .i64 t.a, .int .i64 t.b, .int .i64 t.n] 70)) w' → (w'.cell? ⟨w.heap.size, 0, none⟩ = some (.int .i64 t.o) ∧ w'.cell? ⟨w.heap.size, 1, none⟩ = some (.int .i64 t.a) ∧ w'.cell? ⟨w.heap.size, 2, none⟩ = some (.int .i64 t.b) ∧ w'.cell? ⟨w.heap.size, 3, none⟩ = some (.int .i64 t.n)) := fun w' h => ⟨(VX.kept h).2.1 0 (by simp), (VX.kept h).2.1 1 (by simp), (VX.kept h).2.1 2 (by simp), (VX.kept h).2.1 3 (by simp)⟩
    have K := Hid.mk K
    go_wp2_with (first | (go_at_call 46; refine (isBetween_ok _ _ _ _).mono ?_; rintro e wq ⟨rfl, rfl⟩) | fail)
    refine wp_region_held_drew (S := (fun w' => w'.cell? ⟨w.heap.size, 0, none⟩ = some (.int .i64 t.o) ∧ w'.cell? ⟨w.heap.size, 1, none⟩ = some (.int .i64 t.a) ∧ w'.cell? ⟨w.heap.size, 2, none⟩ = some (.int .i64 t.b) ∧ w'.cell? ⟨w.heap.size, 3, none⟩ = some (.int .i64 t.n))) (by kernel_rfl) (K.out _ (Below.refl _ _).drew) (fun hHeld => ?_)
    refine wpAnyH_take (i := 0) (oi := _) (v := ?vz31u1) rfl (by kernel_rfl) (by kernel_rfl) (by kernel_rfl) (fun _ _ _ h => h) (Or.inl ⟨by rfl, ?hyz31u1⟩) hHeld ?restz31u1
    case hyz31u1 => (intro w hSw; (try dsimp only at hSw); go_simp; first | done | with_reducible rfl)
    try simp only [Act.put, List.getElem_toArray, List.getElem_cons_zero, List.setIfInBounds_toArray, List.set_cons_zero, List.set_cons_succ]
    refine wpAnyH_take (i := 1) (oi := _) (v := ?vz31u2) rfl (by kernel_rfl) (by kernel_rfl) (by kernel_rfl) (fun _ _ _ h => h) (Or.inl ⟨by rfl, ?hyz31u2⟩) hHeld ?restz31u2
    case hyz31u2 => (intro w hSw; (try dsimp only at hSw); go_simp; first | done | with_reducible rfl)
    try simp only [Act.put, List.getElem_toArray, List.getElem_cons_zero, List.getElem_cons_succ, List.setIfInBounds_toArray, List.set_cons_zero, List.set_cons_succ]
    refine wpAnyH_ready (rs := [2]) (by kernel_rfl) (by simp) ?_
    refine AllReadyH.cons (o := _) rfl (fun K0 hK0 => ?_) AllReadyH.nil
    go_simp
    go_at_call 66
    refine (bareTerm_ok t _).mono ?_
    rintro e wz31v3 ⟨r, hr, rfl, bz31v3⟩
    refine hK0.out _ _ (K.out _ (thenB (Below.refl _ _).drew bz31v3)) (fun hHeld => ?_)
    clear hK0 K0
    try simp only [Act.put, List.getElem_toArray, List.getElem_cons_zero, List.getElem_cons_succ, List.setIfInBounds_toArray, List.set_cons_zero, List.set_cons_succ]
    refine wpAnyH_take (i := 3) (oi := _) (v := ?vz31u4) rfl (by kernel_rfl) (by kernel_rfl) (by kernel_rfl) (fun _ _ _ h => h) (Or.inl ⟨by rfl, ?hyz31u4⟩) hHeld ?restz31u4
    case hyz31u4 => (intro w hSw; (try dsimp only at hSw); go_simp; first | done | with_reducible rfl)
    try simp only [Act.put, List.getElem_toArray, List.getElem_cons_zero, List.getElem_cons_succ, List.setIfInBounds_toArray, List.set_cons_zero, List.set_cons_succ]
    refine wpAnyH_done (by kernel_rfl) ?_ _
    clear K hHeld
    replace VX := VX.kept (thenB (Below.refl _ _).drew bz31v3)
    replace hA := hA.kept (thenB (Below.refl _ _).drew bz31v3)
    replace B := thenB B (thenB (Below.refl _ _).drew bz31v3)
    have Sz31 := ((thenB (Below.refl _ _).drew bz31v3)).size
    simp only [World.size_alloc] at Sz31
    clear bz31v3
    obtain ⟨s_VX, f_VX, z_VX⟩ := VX.open
    have Bo := B
    go_wp2_with (first | (go_at_call 46; refine (isBetween_ok _ _ _ _).mono ?_; rintro e wq ⟨rfl, rfl⟩) | fail)
    go_ret
    exact ⟨rfl, Bo⟩
  · skip
    have HO := btw_iff.1 h1
    have q1 := eqTm0 t (brT t)
    rw [h2] at q1
    have CP := Hid.mk (fun (w : World) (c : Option Addr) (d : Nat) (h : Rd .i64 w c (plc t)) => arePlaces_ok a m ca c (plc t).length d (plc t) w h rfl (by unfold maxLen at *; omega) (by unfold maxLen; omega))
    rw [h4] at CP
    rw [hr]
    clear hr
    go_enter Tryd.func44, Tryd.ntmps44
    have B := Below.refl w.heap.size w
    replace hA := hA.kept (belowA w (.cells #[.int .i64 t.o, .int .i64 t.a, .int .i64 t.b, .int .i64 t.n] 70))
    replace B := thenB B (belowA w (.cells #[.int .i64 t.o, .int .i64 t.a, .int .i64 t.b, .int .i64 t.n] 70))
    have VX := V.new w [.int .i64 t.o, .int .i64 t.a, .int .i64 t.b, .int .i64 t.n] 70
    obtain ⟨s_VX, f_VX, z_VX⟩ := VX.open
    have Bo := B
    clear s_VX f_VX z_VX
    have K : ∀ w' : World, Below (w.alloc (.cells #[.int .i64 t.o, .int .i64 t.a, .int .i64 t.b, .int .i64 t.n] 70)).heap.size (w.alloc (.cells #[.int .i64 t.o, .int .i64 t.a, .int .i64 t.b, .int .i64 t.n] 70)) w' → (w'.cell? ⟨w.heap.size, 0, none⟩ = some (.int .i64 t.o) ∧ w'.cell? ⟨w.heap.size, 1, none⟩ = some (.int .i64 t.a) ∧ w'.cell? ⟨w.heap.size, 2, none⟩ = some (.int .i64 t.b) ∧ w'.cell? ⟨w.heap.size, 3, none⟩ = some (.int .i64 t.n)) := fun w' h => ⟨(VX.kept h).2.1 0 (by simp), (VX.kept h).2.1 1 (by simp), (VX.kept h).2.1 2 (by simp), (VX.kept h).2.1 3 (by simp)⟩
    have K := Hid.mk K
    go_wp2_with (first | (go_at_call 46; refine (isBetween_ok _ _ _ _).mono ?_; rintro e wq ⟨rfl, rfl⟩) | fail)
    refine wp_region_held_drew (S := (fun w' => w'.cell? ⟨w.heap.size, 0, none⟩ = some (.int .i64 t.o) ∧ w'.cell? ⟨w.heap.size, 1, none⟩ = some (.int .i64 t.a) ∧ w'.cell? ⟨w.heap.size, 2, none⟩ = some (.int .i64 t.b) ∧ w'.cell? ⟨w.heap.size, 3, none⟩ = some (.int .i64 t.n))) (by kernel_rfl) (K.out _ (Below.refl _ _).drew) (fun hHeld => ?_)
    refine wpAnyH_take (i := 0) (oi := _) (v := ?vz41u1) rfl (by kernel_rfl) (by kernel_rfl) (by kernel_rfl) (fun _ _ _ h => h) (Or.inl ⟨by rfl, ?hyz41u1⟩) hHeld ?restz41u1
    case hyz41u1 => (intro w hSw; (try dsimp only at hSw); go_simp; first | done | with_reducible rfl)
    try simp only [Act.put, List.getElem_toArray, List.getElem_cons_zero, List.setIfInBounds_toArray, List.set_cons_zero, List.set_cons_succ]
    refine wpAnyH_take (i := 1) (oi := _) (v := ?vz41u2) rfl (by kernel_rfl) (by kernel_rfl) (by kernel_rfl) (fun _ _ _ h => h) (Or.inl ⟨by rfl, ?hyz41u2⟩) hHeld ?restz41u2
    case hyz41u2 => (intro w hSw; (try dsimp only at hSw); go_simp; first | done | with_reducible rfl)
    try simp only [Act.put, List.getElem_toArray, List.getElem_cons_zero, List.getElem_cons_succ, List.setIfInBounds_toArray, List.set_cons_zero, List.set_cons_succ]
    refine wpAnyH_ready (rs := [2]) (by kernel_rfl) (by simp) ?_
    refine AllReadyH.cons (o := _) rfl (fun K0 hK0 => ?_) AllReadyH.nil
    go_simp
    go_at_call 66
    refine (bareTerm_ok t _).mono ?_
    rintro e wz41v3 ⟨r, hr, rfl, bz41v3⟩
    refine hK0.out _ _ (K.out _ (thenB (Below.refl _ _).drew bz41v3)) (fun hHeld => ?_)
    clear hK0 K0
    try simp only [Act.put, List.getElem_toArray, List.getElem_cons_zero, List.getElem_cons_succ, List.setIfInBounds_toArray, List.set_cons_zero, List.set_cons_succ]
    refine wpAnyH_take (i := 3) (oi := _) (v := ?vz41u4) rfl (by kernel_rfl) (by kernel_rfl) (by kernel_rfl) (fun _ _ _ h => h) (Or.inl ⟨by rfl, ?hyz41u4⟩) hHeld ?restz41u4
    case hyz41u4 => (intro w hSw; (try dsimp only at hSw); go_simp; first | done | with_reducible rfl)
    try simp only [Act.put, List.getElem_toArray, List.getElem_cons_zero, List.getElem_cons_succ, List.setIfInBounds_toArray, List.set_cons_zero, List.set_cons_succ]
    refine wpAnyH_done (by kernel_rfl) ?_ _
    clear K hHeld
    replace VX := VX.kept (thenB (Below.refl _ _).drew bz41v3)
    replace hA := hA.kept (thenB (Below.refl _ _).drew bz41v3)
    replace B := thenB B (thenB (Below.refl _ _).drew bz41v3)
    have Sz41 := ((thenB (Below.refl _ _).drew bz41v3)).size
    simp only [World.size_alloc] at Sz41
    clear bz41v3
    obtain ⟨s_VX, f_VX, z_VX⟩ := VX.open
    have Bo := B
    go_wp2_with (first | (go_at_call 46; refine (isBetween_ok _ _ _ _).mono ?_; rintro e wq ⟨rfl, rfl⟩) | fail)
    refine (placesIn_ok t HO _).mono ?_
    rintro e w1 ⟨c, d, rfl, O, b1⟩
    clear s_VX f_VX z_VX
    have S1 := b1.size
    replace VX := VX.kept b1
    replace hA := hA.kept b1
    replace B := thenB B b1
    clear b1
    obtain ⟨s_VX, f_VX, z_VX⟩ := VX.open
    have Bo := B
    have OR := O.rd
    go_wp2_with fail
    refine (CP.out _ _ _ OR).mono ?_
    rintro e wq ⟨rfl, rfl⟩
    go_wp2_with (first | (go_at_call 46; refine (isBetween_ok _ _ _ _).mono ?_; rintro e wq ⟨rfl, rfl⟩) | fail)
    go_ret
    exact ⟨rfl, Bo⟩
  · skip
    have HO := btw_iff.1 h1
    have q1 := eqTm0 t (brT t)
    rw [h2] at q1
    have CP := Hid.mk (fun (w : World) (c : Option Addr) (d : Nat) (h : Rd .i64 w c (plc t)) => arePlaces_ok a m ca c (plc t).length d (plc t) w h rfl (by unfold maxLen at *; omega) (by unfold maxLen; omega))
    rw [h4] at CP
    rw [hr]
    clear hr
    go_enter Tryd.func44, Tryd.ntmps44
    have B := Below.refl w.heap.size w
    replace hA := hA.kept (belowA w (.cells #[.int .i64 t.o, .int .i64 t.a, .int .i64 t.b, .int .i64 t.n] 70))
    replace B := thenB B (belowA w (.cells #[.int .i64 t.o, .int .i64 t.a, .int .i64 t.b, .int .i64 t.n] 70))
    have VX := V.new w [.int .i64 t.o, .int .i64 t.a, .int .i64 t.b, .int .i64 t.n] 70
    obtain ⟨s_VX, f_VX, z_VX⟩ := VX.open
    have Bo := B
    clear s_VX f_VX z_VX
    have K : ∀ w' : World, Below (w.alloc (.cells #[.int .i64 t.o, .int .i64 t.a, .int .i64 t.b, .int .i64 t.n] 70)).heap.size (w.alloc (.cells #[.int .i64 t.o, .int .i64 t.a, .int .i64 t.b, .int .i64 t.n] 70)) w' → (w'.cell? ⟨w.heap.size, 0, none⟩ = some (.int .i64 t.o) ∧ w'.cell? ⟨w.heap.size, 1, none⟩ = some (.int .i64 t.a) ∧ w'.cell? ⟨w.heap.size, 2, none⟩ = some (.int .i64 t.b) ∧ w'.cell? ⟨w.heap.size, 3, none⟩ = some (.int .i64 t.n)) := fun w' h => ⟨(VX.kept h).2.1 0 (by simp), (VX.kept h).2.1 1 (by simp), (VX.kept h).2.1 2 (by simp), (VX.kept h).2.1 3 (by simp)⟩
    have K := Hid.mk K
    go_wp2_with (first | (go_at_call 46; refine (isBetween_ok _ _ _ _).mono ?_; rintro e wq ⟨rfl, rfl⟩) | fail)
    refine wp_region_held_drew (S := (fun w' => w'.cell? ⟨w.heap.size, 0, none⟩ = some (.int .i64 t.o) ∧ w'.cell? ⟨w.heap.size, 1, none⟩ = some (.int .i64 t.a) ∧ w'.cell? ⟨w.heap.size, 2, none⟩ = some (.int .i64 t.b) ∧ w'.cell? ⟨w.heap.size, 3, none⟩ = some (.int .i64 t.n))) (by kernel_rfl) (K.out _ (Below.refl _ _).drew) (fun hHeld => ?_)
    refine wpAnyH_take (i := 0) (oi := _) (v := ?vz51u1) rfl (by kernel_rfl) (by kernel_rfl) (by kernel_rfl) (fun _ _ _ h => h) (Or.inl ⟨by rfl, ?hyz51u1⟩) hHeld ?restz51u1
    case hyz51u1 => (intro w hSw; (try dsimp only at hSw); go_simp; first | done | with_reducible rfl)
    try simp only [Act.put, List.getElem_toArray, List.getElem_cons_zero, List.setIfInBounds_toArray, List.set_cons_zero, List.set_cons_succ]
    refine wpAnyH_take (i := 1) (oi := _) (v := ?vz51u2) rfl (by kernel_rfl) (by kernel_rfl) (by kernel_rfl) (fun _ _ _ h => h) (Or.inl ⟨by rfl, ?hyz51u2⟩) hHeld ?restz51u2
    case hyz51u2 => (intro w hSw; (try dsimp only at hSw); go_simp; first | done | with_reducible rfl)
    try simp only [Act.put, List.getElem_toArray, List.getElem_cons_zero, List.getElem_cons_succ, List.setIfInBounds_toArray, List.set_cons_zero, List.set_cons_succ]
    refine wpAnyH_ready (rs := [2]) (by kernel_rfl) (by simp) ?_
    refine AllReadyH.cons (o := _) rfl (fun K0 hK0 => ?_) AllReadyH.nil
    go_simp
    go_at_call 66
    refine (bareTerm_ok t _).mono ?_
    rintro e wz51v3 ⟨r, hr, rfl, bz51v3⟩
    refine hK0.out _ _ (K.out _ (thenB (Below.refl _ _).drew bz51v3)) (fun hHeld => ?_)
    clear hK0 K0
    try simp only [Act.put, List.getElem_toArray, List.getElem_cons_zero, List.getElem_cons_succ, List.setIfInBounds_toArray, List.set_cons_zero, List.set_cons_succ]
    refine wpAnyH_take (i := 3) (oi := _) (v := ?vz51u4) rfl (by kernel_rfl) (by kernel_rfl) (by kernel_rfl) (fun _ _ _ h => h) (Or.inl ⟨by rfl, ?hyz51u4⟩) hHeld ?restz51u4
    case hyz51u4 => (intro w hSw; (try dsimp only at hSw); go_simp; first | done | with_reducible rfl)
    try simp only [Act.put, List.getElem_toArray, List.getElem_cons_zero, List.getElem_cons_succ, List.setIfInBounds_toArray, List.set_cons_zero, List.set_cons_succ]
    refine wpAnyH_done (by kernel_rfl) ?_ _
    clear K hHeld
    replace VX := VX.kept (thenB (Below.refl _ _).drew bz51v3)
    replace hA := hA.kept (thenB (Below.refl _ _).drew bz51v3)
    replace B := thenB B (thenB (Below.refl _ _).drew bz51v3)
    have Sz51 := ((thenB (Below.refl _ _).drew bz51v3)).size
    simp only [World.size_alloc] at Sz51
    clear bz51v3
    obtain ⟨s_VX, f_VX, z_VX⟩ := VX.open
    have Bo := B
    go_wp2_with (first | (go_at_call 46; refine (isBetween_ok _ _ _ _).mono ?_; rintro e wq ⟨rfl, rfl⟩) | fail)
    refine (placesIn_ok t HO _).mono ?_
    rintro e w1 ⟨c, d, rfl, O, b1⟩
    clear s_VX f_VX z_VX
    have S1 := b1.size
    replace VX := VX.kept b1
    replace hA := hA.kept b1
    replace B := thenB B b1
    clear b1
    obtain ⟨s_VX, f_VX, z_VX⟩ := VX.open
    have Bo := B
    have OR := O.rd
    go_wp2_with fail
    refine (CP.out _ _ _ OR).mono ?_
    rintro e wq ⟨rfl, rfl⟩
    go_wp2_with (first | (go_at_call 67; refine (isOfSecrets_ok _ _).mono ?_; rintro e wq ⟨rfl, rfl⟩) | fail)
    go_ret
    exact ⟨rfl, Bo⟩
  · skip
    have HO := btw_iff.1 h1
    have q1 := eqTm0 t (brT t)
    rw [h2] at q1
    have CP := Hid.mk (fun (w : World) (c : Option Addr) (d : Nat) (h : Rd .i64 w c (plc t)) => arePlaces_ok a m ca c (plc t).length d (plc t) w h rfl (by unfold maxLen at *; omega) (by unfold maxLen; omega))
    rw [h4] at CP
    have CR := Hid.mk (fun (w : World) (c : Option Addr) (d : Nat) (h : RdTerm w a xs) (h' : Rd .i64 w c (plc t)) => areRising_ok a m ca xs c (plc t).length d (plc t) w h hm h' rfl (fun z hz => by have := plsOk_iff.1 h4 z hz; omega) (by unfold maxLen; omega))
    rw [h6] at CR
    rw [hr]
    clear hr
    go_enter Tryd.func44, Tryd.ntmps44
    have B := Below.refl w.heap.size w
    replace hA := hA.kept (belowA w (.cells #[.int .i64 t.o, .int .i64 t.a, .int .i64 t.b, .int .i64 t.n] 70))
    replace B := thenB B (belowA w (.cells #[.int .i64 t.o, .int .i64 t.a, .int .i64 t.b, .int .i64 t.n] 70))
    have VX := V.new w [.int .i64 t.o, .int .i64 t.a, .int .i64 t.b, .int .i64 t.n] 70
    obtain ⟨s_VX, f_VX, z_VX⟩ := VX.open
    have Bo := B
    clear s_VX f_VX z_VX
    have K : ∀ w' : World, Below (w.alloc (.cells #[.int .i64 t.o, .int .i64 t.a, .int .i64 t.b, .int .i64 t.n] 70)).heap.size (w.alloc (.cells #[.int .i64 t.o, .int .i64 t.a, .int .i64 t.b, .int .i64 t.n] 70)) w' → (w'.cell? ⟨w.heap.size, 0, none⟩ = some (.int .i64 t.o) ∧ w'.cell? ⟨w.heap.size, 1, none⟩ = some (.int .i64 t.a) ∧ w'.cell? ⟨w.heap.size, 2, none⟩ = some (.int .i64 t.b) ∧ w'.cell? ⟨w.heap.size, 3, none⟩ = some (.int .i64 t.n)) := fun w' h => ⟨(VX.kept h).2.1 0 (by simp), (VX.kept h).2.1 1 (by simp), (VX.kept h).2.1 2 (by simp), (VX.kept h).2.1 3 (by simp)⟩
    have K := Hid.mk K
    go_wp2_with (first | (go_at_call 46; refine (isBetween_ok _ _ _ _).mono ?_; rintro e wq ⟨rfl, rfl⟩) | fail)
    refine wp_region_held_drew (S := (fun w' => w'.cell? ⟨w.heap.size, 0, none⟩ = some (.int .i64 t.o) ∧ w'.cell? ⟨w.heap.size, 1, none⟩ = some (.int .i64 t.a) ∧ w'.cell? ⟨w.heap.size, 2, none⟩ = some (.int .i64 t.b) ∧ w'.cell? ⟨w.heap.size, 3, none⟩ = some (.int .i64 t.n))) (by kernel_rfl) (K.out _ (Below.refl _ _).drew) (fun hHeld => ?_)
    refine wpAnyH_take (i := 0) (oi := _) (v := ?vz61u1) rfl (by kernel_rfl) (by kernel_rfl) (by kernel_rfl) (fun _ _ _ h => h) (Or.inl ⟨by rfl, ?hyz61u1⟩) hHeld ?restz61u1
    case hyz61u1 => (intro w hSw; (try dsimp only at hSw); go_simp; first | done | with_reducible rfl)
    try simp only [Act.put, List.getElem_toArray, List.getElem_cons_zero, List.setIfInBounds_toArray, List.set_cons_zero, List.set_cons_succ]
    refine wpAnyH_take (i := 1) (oi := _) (v := ?vz61u2) rfl (by kernel_rfl) (by kernel_rfl) (by kernel_rfl) (fun _ _ _ h => h) (Or.inl ⟨by rfl, ?hyz61u2⟩) hHeld ?restz61u2
    case hyz61u2 => (intro w hSw; (try dsimp only at hSw); go_simp; first | done | with_reducible rfl)
    try simp only [Act.put, List.getElem_toArray, List.getElem_cons_zero, List.getElem_cons_succ, List.setIfInBounds_toArray, List.set_cons_zero, List.set_cons_succ]
    refine wpAnyH_ready (rs := [2]) (by kernel_rfl) (by simp) ?_
    refine AllReadyH.cons (o := _) rfl (fun K0 hK0 => ?_) AllReadyH.nil
    go_simp
    go_at_call 66
    refine (bareTerm_ok t _).mono ?_
    rintro e wz61v3 ⟨r, hr, rfl, bz61v3⟩
    refine hK0.out _ _ (K.out _ (thenB (Below.refl _ _).drew bz61v3)) (fun hHeld => ?_)
    clear hK0 K0
    try simp only [Act.put, List.getElem_toArray, List.getElem_cons_zero, List.getElem_cons_succ, List.setIfInBounds_toArray, List.set_cons_zero, List.set_cons_succ]
    refine wpAnyH_take (i := 3) (oi := _) (v := ?vz61u4) rfl (by kernel_rfl) (by kernel_rfl) (by kernel_rfl) (fun _ _ _ h => h) (Or.inl ⟨by rfl, ?hyz61u4⟩) hHeld ?restz61u4
    case hyz61u4 => (intro w hSw; (try dsimp only at hSw); go_simp; first | done | with_reducible rfl)
    try simp only [Act.put, List.getElem_toArray, List.getElem_cons_zero, List.getElem_cons_succ, List.setIfInBounds_toArray, List.set_cons_zero, List.set_cons_succ]
    refine wpAnyH_done (by kernel_rfl) ?_ _
    clear K hHeld
    replace VX := VX.kept (thenB (Below.refl _ _).drew bz61v3)
    replace hA := hA.kept (thenB (Below.refl _ _).drew bz61v3)
    replace B := thenB B (thenB (Below.refl _ _).drew bz61v3)
    have Sz61 := ((thenB (Below.refl _ _).drew bz61v3)).size
    simp only [World.size_alloc] at Sz61
    clear bz61v3
    obtain ⟨s_VX, f_VX, z_VX⟩ := VX.open
    have Bo := B
    go_wp2_with (first | (go_at_call 46; refine (isBetween_ok _ _ _ _).mono ?_; rintro e wq ⟨rfl, rfl⟩) | fail)
    refine (placesIn_ok t HO _).mono ?_
    rintro e w1 ⟨c, d, rfl, O, b1⟩
    clear s_VX f_VX z_VX
    have S1 := b1.size
    replace VX := VX.kept b1
    replace hA := hA.kept b1
    replace B := thenB B b1
    clear b1
    obtain ⟨s_VX, f_VX, z_VX⟩ := VX.open
    have Bo := B
    have OR := O.rd
    go_wp2_with fail
    refine (CP.out _ _ _ OR).mono ?_
    rintro e wq ⟨rfl, rfl⟩
    clear OR
    clear O
    go_wp2_with (first | (go_at_call 67; refine (isOfSecrets_ok _ _).mono ?_; rintro e wq ⟨rfl, rfl⟩) | fail)
    refine (placesIn_ok t HO _).mono ?_
    rintro e w2 ⟨c2, d2, rfl, O2, b2⟩
    clear s_VX f_VX z_VX
    have S2 := b2.size
    replace VX := VX.kept b2
    replace hA := hA.kept b2
    replace B := thenB B b2
    clear b2
    obtain ⟨s_VX, f_VX, z_VX⟩ := VX.open
    have Bo := B
    go_wp2_with fail
    refine (CR.out _ _ _ hA O2.rd).mono ?_
    rintro e w3 ⟨rfl, b3⟩
    clear s_VX f_VX z_VX
    have S3 := b3.size
    replace VX := VX.kept b3
    replace hA := hA.kept b3
    replace O2 := O2.kept b3
    replace B := thenB B b3
    clear b3
    obtain ⟨s_VX, f_VX, z_VX⟩ := VX.open
    have Bo := B
    go_wp2
    go_ret
    exact ⟨rfl, Bo⟩
  · skip
    have HO := btw_iff.1 h1
    have q1 := eqTm0 t (brT t)
    rw [h2] at q1
    have CP := Hid.mk (fun (w : World) (c : Option Addr) (d : Nat) (h : Rd .i64 w c (plc t)) => arePlaces_ok a m ca c (plc t).length d (plc t) w h rfl (by unfold maxLen at *; omega) (by unfold maxLen; omega))
    rw [h4] at CP
    have CR := Hid.mk (fun (w : World) (c : Option Addr) (d : Nat) (h : RdTerm w a xs) (h' : Rd .i64 w c (plc t)) => areRising_ok a m ca xs c (plc t).length d (plc t) w h hm h' rfl (fun z hz => by have := plsOk_iff.1 h4 z hz; omega) (by unfold maxLen; omega))
    rw [h6] at CR
    rw [hr]
    clear hr
    go_enter Tryd.func44, Tryd.ntmps44
    have B := Below.refl w.heap.size w
    replace hA := hA.kept (belowA w (.cells #[.int .i64 t.o, .int .i64 t.a, .int .i64 t.b, .int .i64 t.n] 70))
    replace B := thenB B (belowA w (.cells #[.int .i64 t.o, .int .i64 t.a, .int .i64 t.b, .int .i64 t.n] 70))
    have VX := V.new w [.int .i64 t.o, .int .i64 t.a, .int .i64 t.b, .int .i64 t.n] 70
    obtain ⟨s_VX, f_VX, z_VX⟩ := VX.open
    have Bo := B
    clear s_VX f_VX z_VX
    have K : ∀ w' : World, Below (w.alloc (.cells #[.int .i64 t.o, .int .i64 t.a, .int .i64 t.b, .int .i64 t.n] 70)).heap.size (w.alloc (.cells #[.int .i64 t.o, .int .i64 t.a, .int .i64 t.b, .int .i64 t.n] 70)) w' → (w'.cell? ⟨w.heap.size, 0, none⟩ = some (.int .i64 t.o) ∧ w'.cell? ⟨w.heap.size, 1, none⟩ = some (.int .i64 t.a) ∧ w'.cell? ⟨w.heap.size, 2, none⟩ = some (.int .i64 t.b) ∧ w'.cell? ⟨w.heap.size, 3, none⟩ = some (.int .i64 t.n)) := fun w' h => ⟨(VX.kept h).2.1 0 (by simp), (VX.kept h).2.1 1 (by simp), (VX.kept h).2.1 2 (by simp), (VX.kept h).2.1 3 (by simp)⟩
    have K := Hid.mk K
    go_wp2_with (first | (go_at_call 46; refine (isBetween_ok _ _ _ _).mono ?_; rintro e wq ⟨rfl, rfl⟩) | fail)
    refine wp_region_held_drew (S := (fun w' => w'.cell? ⟨w.heap.size, 0, none⟩ = some (.int .i64 t.o) ∧ w'.cell? ⟨w.heap.size, 1, none⟩ = some (.int .i64 t.a) ∧ w'.cell? ⟨w.heap.size, 2, none⟩ = some (.int .i64 t.b) ∧ w'.cell? ⟨w.heap.size, 3, none⟩ = some (.int .i64 t.n))) (by kernel_rfl) (K.out _ (Below.refl _ _).drew) (fun hHeld => ?_)
    refine wpAnyH_take (i := 0) (oi := _) (v := ?vz71u1) rfl (by kernel_rfl) (by kernel_rfl) (by kernel_rfl) (fun _ _ _ h => h) (Or.inl ⟨by rfl, ?hyz71u1⟩) hHeld ?restz71u1
    case hyz71u1 => (intro w hSw; (try dsimp only at hSw); go_simp; first | done | with_reducible rfl)
    try simp only [Act.put, List.getElem_toArray, List.getElem_cons_zero, List.setIfInBounds_toArray, List.set_cons_zero, List.set_cons_succ]
    refine wpAnyH_take (i := 1) (oi := _) (v := ?vz71u2) rfl (by kernel_rfl) (by kernel_rfl) (by kernel_rfl) (fun _ _ _ h => h) (Or.inl ⟨by rfl, ?hyz71u2⟩) hHeld ?restz71u2
    case hyz71u2 => (intro w hSw; (try dsimp only at hSw); go_simp; first | done | with_reducible rfl)
    try simp only [Act.put, List.getElem_toArray, List.getElem_cons_zero, List.getElem_cons_succ, List.setIfInBounds_toArray, List.set_cons_zero, List.set_cons_succ]
    refine wpAnyH_ready (rs := [2]) (by kernel_rfl) (by simp) ?_
    refine AllReadyH.cons (o := _) rfl (fun K0 hK0 => ?_) AllReadyH.nil
    go_simp
    go_at_call 66
    refine (bareTerm_ok t _).mono ?_
    rintro e wz71v3 ⟨r, hr, rfl, bz71v3⟩
    refine hK0.out _ _ (K.out _ (thenB (Below.refl _ _).drew bz71v3)) (fun hHeld => ?_)
    clear hK0 K0
    try simp only [Act.put, List.getElem_toArray, List.getElem_cons_zero, List.getElem_cons_succ, List.setIfInBounds_toArray, List.set_cons_zero, List.set_cons_succ]
    refine wpAnyH_take (i := 3) (oi := _) (v := ?vz71u4) rfl (by kernel_rfl) (by kernel_rfl) (by kernel_rfl) (fun _ _ _ h => h) (Or.inl ⟨by rfl, ?hyz71u4⟩) hHeld ?restz71u4
    case hyz71u4 => (intro w hSw; (try dsimp only at hSw); go_simp; first | done | with_reducible rfl)
    try simp only [Act.put, List.getElem_toArray, List.getElem_cons_zero, List.getElem_cons_succ, List.setIfInBounds_toArray, List.set_cons_zero, List.set_cons_succ]
    refine wpAnyH_done (by kernel_rfl) ?_ _
    clear K hHeld
    replace VX := VX.kept (thenB (Below.refl _ _).drew bz71v3)
    replace hA := hA.kept (thenB (Below.refl _ _).drew bz71v3)
    replace B := thenB B (thenB (Below.refl _ _).drew bz71v3)
    have Sz71 := ((thenB (Below.refl _ _).drew bz71v3)).size
    simp only [World.size_alloc] at Sz71
    clear bz71v3
    obtain ⟨s_VX, f_VX, z_VX⟩ := VX.open
    have Bo := B
    go_wp2_with (first | (go_at_call 46; refine (isBetween_ok _ _ _ _).mono ?_; rintro e wq ⟨rfl, rfl⟩) | fail)
    refine (placesIn_ok t HO _).mono ?_
    rintro e w1 ⟨c, d, rfl, O, b1⟩
    clear s_VX f_VX z_VX
    have S1 := b1.size
    replace VX := VX.kept b1
    replace hA := hA.kept b1
    replace B := thenB B b1
    clear b1
    obtain ⟨s_VX, f_VX, z_VX⟩ := VX.open
    have Bo := B
    have OR := O.rd
    go_wp2_with fail
    refine (CP.out _ _ _ OR).mono ?_
    rintro e wq ⟨rfl, rfl⟩
    clear OR
    clear O
    go_wp2_with (first | (go_at_call 67; refine (isOfSecrets_ok _ _).mono ?_; rintro e wq ⟨rfl, rfl⟩) | fail)
    refine (placesIn_ok t HO _).mono ?_
    rintro e w2 ⟨c2, d2, rfl, O2, b2⟩
    clear s_VX f_VX z_VX
    have S2 := b2.size
    replace VX := VX.kept b2
    replace hA := hA.kept b2
    replace B := thenB B b2
    clear b2
    obtain ⟨s_VX, f_VX, z_VX⟩ := VX.open
    have Bo := B
    go_wp2_with fail
    refine (CR.out _ _ _ hA O2.rd).mono ?_
    rintro e w3 ⟨rfl, b3⟩
    clear s_VX f_VX z_VX
    have S3 := b3.size
    replace VX := VX.kept b3
    replace hA := hA.kept b3
    replace O2 := O2.kept b3
    replace B := thenB B b3
    clear b3
    obtain ⟨s_VX, f_VX, z_VX⟩ := VX.open
    have Bo := B
    go_wp2
    go_ret
    exact ⟨rfl, Bo⟩

end Go.Proofs.YthjaehcfakjemaaDoor
