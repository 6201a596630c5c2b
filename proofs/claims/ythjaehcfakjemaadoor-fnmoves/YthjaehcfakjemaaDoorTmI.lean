/- A book of terms: one is put. -/
import Derived.Test.YthjaehcfakjemaaDoorTmH
namespace Go.Proofs.YthjaehcfakjemaaDoor
open Go.RowKit

theorem build_irc (k : Int) (w : World) : (Instr.build 36 #[(0, .int .i64 k)]).run Tryd.prog w = .ok (.agg #[.int .i64 k, .int .i64 0]) w := run_build w 36 _ _ (by kernel_rfl)

theorem build_irv (k : Int) (w : World) : (Instr.build 36 #[(1, .int .i64 k)]).run Tryd.prog w = .ok (.agg #[.int .i64 0, .int .i64 k]) w := run_build w 36 _ _ (by kernel_rfl)

/-- What a table is behind a put. -/
@[irreducible] def putL (xs : List T4) (t : T4) : List T4 := if (put xs t).c = 0 then (put xs t).l else xs

set_option maxRecDepth 20000 in
set_option maxHeartbeats 8000000 in
theorem put_ok (base p g : Nat) (c : Option Addr) (d : Nat) (xs : List T4) (t : T4) (w : World) (H : Bk w base p g c d xs) (ht : okT t) (hl : xs.length ≤ 400) :
    Calls Tryd.prog 47 #[.pointer (some ⟨p, 0, none⟩), .agg #[.int .i64 t.o, .int .i64 t.a, .int .i64 t.b, .int .i64 t.n]] w fun e w' => ∃ c' d', e = .returned (.agg #[.int .i64 (put xs t).c, .int .i64 (put xs t).k]) ∧ Bk w' base p g c' d' (putL xs t) ∧ Sm (BkX p g c) w w' ∧ ∀ k, BkX p g c' k → k < w.heap.size → BkX p g c k := by
  have q1 := build_irc
  have q2 := build_irv
  obtain ⟨n, hnn⟩ : ∃ n, xs.length = n := ⟨_, rfl⟩
  have CF := Hid.mk (fun w h => termFault_ok c n d xs t w h hnn (by unfold maxLen; omega))
  have HX : Hid (∀ k, BkX p g c k → k < w.heap.size) := Hid.mk fun k hk => (H.lt k hk).2
  have hM1 : t ∈ xs → tmM xs t = some ((tmIdx xs t : Nat) : Int) := fun h => by unfold tmM; rw [if_pos h]
  have hM0 : t ∉ xs → tmM xs t = none := fun h => by unfold tmM; rw [if_neg h]
  have VP := H.v
  rw [hnn] at VP hl
  have HW := put_ways xs t
  rw [hnn] at HW
  replace hnn := Hid.mk hnn
  rcases HW with ⟨h1, hr⟩ | ⟨h1, h2, hr⟩ | ⟨h1, h2, h3, hr⟩ | ⟨h1, h2, h3, hr⟩
  · have HE := Hid.mk (show tmC xs t ≠ 0 from h1)
    have h2 : (tmC xs t != 0) = true := by simp [h1]
    have PE : Hid (put xs t = ⟨tmC xs t, 0, []⟩) := Hid.mk hr
    have PL : Hid (putL xs t = xs) := Hid.mk (by unfold putL; rw [hr, if_neg h1])
    clear hr h1
    generalize tmC xs t = kk at *
    go_enter Tryd.func47, Tryd.ntmps47
    have S := Sm.refl (BkX p g c) w
    replace VP := VP.kept (belowA w (.cells #[.int .i64 t.o, .int .i64 t.a, .int .i64 t.b, .int .i64 t.n] 70))
    replace H := H.kept (belowA w (.cells #[.int .i64 t.o, .int .i64 t.a, .int .i64 t.b, .int .i64 t.n] 70))
    replace S := S.trans (Sm.below (belowA w (.cells #[.int .i64 t.o, .int .i64 t.a, .int .i64 t.b, .int .i64 t.n] 70)))
    have VX := V.new w [.int .i64 t.o, .int .i64 t.a, .int .i64 t.b, .int .i64 t.n] 70
    replace VP := VP.kept (belowA (w.alloc (.cells #[.int .i64 t.o, .int .i64 t.a, .int .i64 t.b, .int .i64 t.n] 70)) (.cells #[.int .i64 0, .int .i64 0] 36))
    replace VX := VX.kept (belowA (w.alloc (.cells #[.int .i64 t.o, .int .i64 t.a, .int .i64 t.b, .int .i64 t.n] 70)) (.cells #[.int .i64 0, .int .i64 0] 36))
    replace H := H.kept (belowA (w.alloc (.cells #[.int .i64 t.o, .int .i64 t.a, .int .i64 t.b, .int .i64 t.n] 70)) (.cells #[.int .i64 0, .int .i64 0] 36))
    replace S := S.trans (Sm.below (belowA (w.alloc (.cells #[.int .i64 t.o, .int .i64 t.a, .int .i64 t.b, .int .i64 t.n] 70)) (.cells #[.int .i64 0, .int .i64 0] 36)))
    have VR : V ((w.alloc (.cells #[.int .i64 t.o, .int .i64 t.a, .int .i64 t.b, .int .i64 t.n] 70)).alloc (.cells #[.int .i64 0, .int .i64 0] 36)) (w.heap.size + 1) [.int .i64 0, .int .i64 0] := V.newAt _ _ _ _ (by simp)
    obtain ⟨s_VP, f_VP, z_VP⟩ := VP.open
    obtain ⟨s_VX, f_VX, z_VX⟩ := VX.open
    obtain ⟨s_VR, f_VR, z_VR⟩ := VR.open
    clear s_VP f_VP z_VP s_VX f_VX z_VX s_VR f_VR z_VR
    have K : ∀ w' : World, Below ((w.alloc (.cells #[.int .i64 t.o, .int .i64 t.a, .int .i64 t.b, .int .i64 t.n] 70)).alloc (.cells #[.int .i64 0, .int .i64 0] 36)).heap.size ((w.alloc (.cells #[.int .i64 t.o, .int .i64 t.a, .int .i64 t.b, .int .i64 t.n] 70)).alloc (.cells #[.int .i64 0, .int .i64 0] 36)) w' → (w'.cell? ⟨w.heap.size, 0, none⟩ = some (.int .i64 t.o) ∧ w'.cell? ⟨w.heap.size, 1, none⟩ = some (.int .i64 t.a) ∧ w'.cell? ⟨w.heap.size, 2, none⟩ = some (.int .i64 t.b) ∧ w'.cell? ⟨w.heap.size, 3, none⟩ = some (.int .i64 t.n) ∧ w'.cell? ⟨p, 0, none⟩ = some (.slice c n d) ∧ w'.cell? ⟨p, 1, none⟩ = some (.map (some g))) := fun w' h => ⟨(VX.kept h).2.1 0 (by simp), (VX.kept h).2.1 1 (by simp), (VX.kept h).2.1 2 (by simp), (VX.kept h).2.1 3 (by simp), (VP.kept h).2.1 0 (by simp), (VP.kept h).2.1 1 (by simp)⟩
    have K := Hid.mk K
    go_wp2_with fail
    refine wp_region_held_drew (S := (fun w' => w'.cell? ⟨w.heap.size, 0, none⟩ = some (.int .i64 t.o) ∧ w'.cell? ⟨w.heap.size, 1, none⟩ = some (.int .i64 t.a) ∧ w'.cell? ⟨w.heap.size, 2, none⟩ = some (.int .i64 t.b) ∧ w'.cell? ⟨w.heap.size, 3, none⟩ = some (.int .i64 t.n) ∧ w'.cell? ⟨p, 0, none⟩ = some (.slice c n d) ∧ w'.cell? ⟨p, 1, none⟩ = some (.map (some g)))) (by kernel_rfl) (K.out _ (Below.refl _ _).drew) (fun hHeld => ?_)
    refine wpAnyH_take (i := 0) (oi := _) (v := ?vz1u1) rfl (by kernel_rfl) (by kernel_rfl) (by kernel_rfl) (fun _ _ _ h => h) (Or.inl ⟨by rfl, ?hyz1u1⟩) hHeld ?restz1u1
    case hyz1u1 => (intro w hSw; (try dsimp only at hSw); go_simp; first | done | with_reducible rfl)
    try simp only [Act.put, List.getElem_toArray, List.getElem_cons_zero, List.setIfInBounds_toArray, List.set_cons_zero, List.set_cons_succ]
    refine wpAnyH_take (i := 1) (oi := _) (v := ?vz1u2) rfl (by kernel_rfl) (by kernel_rfl) (by kernel_rfl) (fun _ _ _ h => h) (Or.inl ⟨by rfl, ?hyz1u2⟩) hHeld ?restz1u2
    case hyz1u2 => (intro w hSw; (try dsimp only at hSw); go_simp; first | done | with_reducible rfl)
    try simp only [Act.put, List.getElem_toArray, List.getElem_cons_zero, List.getElem_cons_succ, List.setIfInBounds_toArray, List.set_cons_zero, List.set_cons_succ]
    refine wpAnyH_take (i := 2) (oi := _) (v := ?vz1u3) rfl (by kernel_rfl) (by kernel_rfl) (by kernel_rfl) (fun _ _ _ h => h) (Or.inl ⟨by rfl, ?hyz1u3⟩) hHeld ?restz1u3
    case hyz1u3 => (intro w hSw; (try dsimp only at hSw); go_simp; first | done | with_reducible rfl)
    try simp only [Act.put, List.getElem_toArray, List.getElem_cons_zero, List.getElem_cons_succ, List.setIfInBounds_toArray, List.set_cons_zero, List.set_cons_succ]
    refine wpAnyH_take (i := 3) (oi := _) (v := ?vz1u4) rfl (by kernel_rfl) (by kernel_rfl) (by kernel_rfl) (fun _ _ _ h => h) (Or.inl ⟨by rfl, ?hyz1u4⟩) hHeld ?restz1u4
    case hyz1u4 => (intro w hSw; (try dsimp only at hSw); go_simp; first | done | with_reducible rfl)
    try simp only [Act.put, List.getElem_toArray, List.getElem_cons_zero, List.getElem_cons_succ, List.setIfInBounds_toArray, List.set_cons_zero, List.set_cons_succ]
    refine wpAnyH_take (i := 4) (oi := _) (v := ?vz1u5) rfl (by kernel_rfl) (by kernel_rfl) (by kernel_rfl) (fun _ _ _ h => h) (Or.inl ⟨by rfl, ?hyz1u5⟩) hHeld ?restz1u5
    case hyz1u5 => (intro w hSw; (try dsimp only at hSw); go_simp; first | done | with_reducible rfl)
    try simp only [Act.put, List.getElem_toArray, List.getElem_cons_zero, List.getElem_cons_succ, List.setIfInBounds_toArray, List.set_cons_zero, List.set_cons_succ]
    refine wpAnyH_ready (rs := [5]) (by kernel_rfl) (by simp) ?_
    refine AllReadyH.cons (o := _) rfl (fun K0 hK0 => ?_) AllReadyH.nil
    go_simp
    go_at_call 44
    refine (CF.out _ (H.o.rd.kept (Below.refl _ _).drew)).mono ?_
    rintro e wz1v6 ⟨rfl, bz1v6⟩
    refine hK0.out _ _ (K.out _ (thenB (Below.refl _ _).drew bz1v6)) (fun hHeld => ?_)
    clear hK0 K0
    try simp only [Act.put, List.getElem_toArray, List.getElem_cons_zero, List.getElem_cons_succ, List.setIfInBounds_toArray, List.set_cons_zero, List.set_cons_succ]
    refine wpAnyH_take (i := 6) (oi := _) (v := ?vz1u7) rfl (by kernel_rfl) (by kernel_rfl) (by kernel_rfl) (fun _ _ _ h => h) (Or.inl ⟨by rfl, ?hyz1u7⟩) hHeld ?restz1u7
    case hyz1u7 => (intro w hSw; (try dsimp only at hSw); go_simp; first | done | with_reducible rfl)
    try simp only [Act.put, List.getElem_toArray, List.getElem_cons_zero, List.getElem_cons_succ, List.setIfInBounds_toArray, List.set_cons_zero, List.set_cons_succ]
    refine wpAnyH_done (by kernel_rfl) ?_ _
    clear K hHeld
    replace VP := VP.kept (thenB (Below.refl _ _).drew bz1v6)
    replace VX := VX.kept (thenB (Below.refl _ _).drew bz1v6)
    replace VR := VR.kept (thenB (Below.refl _ _).drew bz1v6)
    replace H := H.kept (thenB (Below.refl _ _).drew bz1v6)
    replace S := S.trans (Sm.below (thenB (Below.refl _ _).drew bz1v6))
    have Sz1 := ((thenB (Below.refl _ _).drew bz1v6)).size
    simp only [World.size_alloc] at Sz1
    clear bz1v6
    obtain ⟨s_VP, f_VP, z_VP⟩ := VP.open
    obtain ⟨s_VX, f_VX, z_VX⟩ := VX.open
    obtain ⟨s_VR, f_VR, z_VR⟩ := VR.open
    clear s_VP f_VP z_VP s_VX f_VX z_VX s_VR f_VR z_VR
    have VF := Hid.mk (VR.filled [.int .i64 kk, .int .i64 0] rfl)
    have HT := Hid.mk VR.there
    have SR := Hid.mk (Sm.newCells S (show w.heap.size ≤ w.heap.size + 1 by (first | omega | (simp; done) | (simp; omega))) 0 [.int .i64 kk, .int .i64 0])
    have HH := Hid.mk (H.apart (B := w.heap.size + 1) (by intro k hk; have := HX.out k hk; omega) 0 [.int .i64 kk, .int .i64 0])
    obtain ⟨s_VP, f_VP, z_VP⟩ := VP.open
    obtain ⟨s_VX, f_VX, z_VX⟩ := VX.open
    obtain ⟨s_VR, f_VR, z_VR⟩ := VR.open
    go_wp2_with (refine wpList_store_mid rfl 36 _ _ rfl (w.heap.size + 1) 0 #[.int .i64 kk, .int .i64 0] rfl rfl HT.out (by kernel_rfl) (by kernel_rfl) ?_)
    refine bodyPost_ret (v := .agg #[.int .i64 kk, .int .i64 0]) (results_row Tryd.results47 _ _ (w.heap.size + 1) [.int .i64 kk, .int .i64 0] _ rfl VF.out Tryd.underlying36 rfl (by kernel_rfl)) rfl ⟨c, d, by rw [PE.out], by rw [PL.out]; exact HH.out, SR.out, fun _ h _ => h⟩
  · have HM := hM1 h2
    have PE : Hid (put xs t = ⟨0, (tmIdx xs t : Nat), xs⟩) := Hid.mk hr
    have PL : Hid (putL xs t = xs) := Hid.mk (by unfold putL; rw [hr]; rfl)
    rw [h1] at CF
    clear hr h1 h2
    generalize tmIdx xs t = ix at *
    go_enter Tryd.func47, Tryd.ntmps47
    have S := Sm.refl (BkX p g c) w
    replace VP := VP.kept (belowA w (.cells #[.int .i64 t.o, .int .i64 t.a, .int .i64 t.b, .int .i64 t.n] 70))
    replace H := H.kept (belowA w (.cells #[.int .i64 t.o, .int .i64 t.a, .int .i64 t.b, .int .i64 t.n] 70))
    replace S := S.trans (Sm.below (belowA w (.cells #[.int .i64 t.o, .int .i64 t.a, .int .i64 t.b, .int .i64 t.n] 70)))
    have VX := V.new w [.int .i64 t.o, .int .i64 t.a, .int .i64 t.b, .int .i64 t.n] 70
    replace VP := VP.kept (belowA (w.alloc (.cells #[.int .i64 t.o, .int .i64 t.a, .int .i64 t.b, .int .i64 t.n] 70)) (.cells #[.int .i64 0, .int .i64 0] 36))
    replace VX := VX.kept (belowA (w.alloc (.cells #[.int .i64 t.o, .int .i64 t.a, .int .i64 t.b, .int .i64 t.n] 70)) (.cells #[.int .i64 0, .int .i64 0] 36))
    replace H := H.kept (belowA (w.alloc (.cells #[.int .i64 t.o, .int .i64 t.a, .int .i64 t.b, .int .i64 t.n] 70)) (.cells #[.int .i64 0, .int .i64 0] 36))
    replace S := S.trans (Sm.below (belowA (w.alloc (.cells #[.int .i64 t.o, .int .i64 t.a, .int .i64 t.b, .int .i64 t.n] 70)) (.cells #[.int .i64 0, .int .i64 0] 36)))
    have VR : V ((w.alloc (.cells #[.int .i64 t.o, .int .i64 t.a, .int .i64 t.b, .int .i64 t.n] 70)).alloc (.cells #[.int .i64 0, .int .i64 0] 36)) (w.heap.size + 1) [.int .i64 0, .int .i64 0] := V.newAt _ _ _ _ (by simp)
    obtain ⟨s_VP, f_VP, z_VP⟩ := VP.open
    obtain ⟨s_VX, f_VX, z_VX⟩ := VX.open
    obtain ⟨s_VR, f_VR, z_VR⟩ := VR.open
    clear s_VP f_VP z_VP s_VX f_VX z_VX s_VR f_VR z_VR
    have K : ∀ w' : World, Below ((w.alloc (.cells #[.int .i64 t.o, .int .i64 t.a, .int .i64 t.b, .int .i64 t.n] 70)).alloc (.cells #[.int .i64 0, .int .i64 0] 36)).heap.size ((w.alloc (.cells #[.int .i64 t.o, .int .i64 t.a, .int .i64 t.b, .int .i64 t.n] 70)).alloc (.cells #[.int .i64 0, .int .i64 0] 36)) w' → (w'.cell? ⟨w.heap.size, 0, none⟩ = some (.int .i64 t.o) ∧ w'.cell? ⟨w.heap.size, 1, none⟩ = some (.int .i64 t.a) ∧ w'.cell? ⟨w.heap.size, 2, none⟩ = some (.int .i64 t.b) ∧ w'.cell? ⟨w.heap.size, 3, none⟩ = some (.int .i64 t.n) ∧ w'.cell? ⟨p, 0, none⟩ = some (.slice c n d) ∧ w'.cell? ⟨p, 1, none⟩ = some (.map (some g))) := fun w' h => ⟨(VX.kept h).2.1 0 (by simp), (VX.kept h).2.1 1 (by simp), (VX.kept h).2.1 2 (by simp), (VX.kept h).2.1 3 (by simp), (VP.kept h).2.1 0 (by simp), (VP.kept h).2.1 1 (by simp)⟩
    have K := Hid.mk K
    go_wp2_with fail
    refine wp_region_held_drew (S := (fun w' => w'.cell? ⟨w.heap.size, 0, none⟩ = some (.int .i64 t.o) ∧ w'.cell? ⟨w.heap.size, 1, none⟩ = some (.int .i64 t.a) ∧ w'.cell? ⟨w.heap.size, 2, none⟩ = some (.int .i64 t.b) ∧ w'.cell? ⟨w.heap.size, 3, none⟩ = some (.int .i64 t.n) ∧ w'.cell? ⟨p, 0, none⟩ = some (.slice c n d) ∧ w'.cell? ⟨p, 1, none⟩ = some (.map (some g)))) (by kernel_rfl) (K.out _ (Below.refl _ _).drew) (fun hHeld => ?_)
    refine wpAnyH_take (i := 0) (oi := _) (v := ?vz21u1) rfl (by kernel_rfl) (by kernel_rfl) (by kernel_rfl) (fun _ _ _ h => h) (Or.inl ⟨by rfl, ?hyz21u1⟩) hHeld ?restz21u1
    case hyz21u1 => (intro w hSw; (try dsimp only at hSw); go_simp; first | done | with_reducible rfl)
    try simp only [Act.put, List.getElem_toArray, List.getElem_cons_zero, List.setIfInBounds_toArray, List.set_cons_zero, List.set_cons_succ]
    refine wpAnyH_take (i := 1) (oi := _) (v := ?vz21u2) rfl (by kernel_rfl) (by kernel_rfl) (by kernel_rfl) (fun _ _ _ h => h) (Or.inl ⟨by rfl, ?hyz21u2⟩) hHeld ?restz21u2
    case hyz21u2 => (intro w hSw; (try dsimp only at hSw); go_simp; first | done | with_reducible rfl)
    try simp only [Act.put, List.getElem_toArray, List.getElem_cons_zero, List.getElem_cons_succ, List.setIfInBounds_toArray, List.set_cons_zero, List.set_cons_succ]
    refine wpAnyH_take (i := 2) (oi := _) (v := ?vz21u3) rfl (by kernel_rfl) (by kernel_rfl) (by kernel_rfl) (fun _ _ _ h => h) (Or.inl ⟨by rfl, ?hyz21u3⟩) hHeld ?restz21u3
    case hyz21u3 => (intro w hSw; (try dsimp only at hSw); go_simp; first | done | with_reducible rfl)
    try simp only [Act.put, List.getElem_toArray, List.getElem_cons_zero, List.getElem_cons_succ, List.setIfInBounds_toArray, List.set_cons_zero, List.set_cons_succ]
    refine wpAnyH_take (i := 3) (oi := _) (v := ?vz21u4) rfl (by kernel_rfl) (by kernel_rfl) (by kernel_rfl) (fun _ _ _ h => h) (Or.inl ⟨by rfl, ?hyz21u4⟩) hHeld ?restz21u4
    case hyz21u4 => (intro w hSw; (try dsimp only at hSw); go_simp; first | done | with_reducible rfl)
    try simp only [Act.put, List.getElem_toArray, List.getElem_cons_zero, List.getElem_cons_succ, List.setIfInBounds_toArray, List.set_cons_zero, List.set_cons_succ]
    refine wpAnyH_take (i := 4) (oi := _) (v := ?vz21u5) rfl (by kernel_rfl) (by kernel_rfl) (by kernel_rfl) (fun _ _ _ h => h) (Or.inl ⟨by rfl, ?hyz21u5⟩) hHeld ?restz21u5
    case hyz21u5 => (intro w hSw; (try dsimp only at hSw); go_simp; first | done | with_reducible rfl)
    try simp only [Act.put, List.getElem_toArray, List.getElem_cons_zero, List.getElem_cons_succ, List.setIfInBounds_toArray, List.set_cons_zero, List.set_cons_succ]
    refine wpAnyH_ready (rs := [5]) (by kernel_rfl) (by simp) ?_
    refine AllReadyH.cons (o := _) rfl (fun K0 hK0 => ?_) AllReadyH.nil
    go_simp
    go_at_call 44
    refine (CF.out _ (H.o.rd.kept (Below.refl _ _).drew)).mono ?_
    rintro e wz21v6 ⟨rfl, bz21v6⟩
    refine hK0.out _ _ (K.out _ (thenB (Below.refl _ _).drew bz21v6)) (fun hHeld => ?_)
    clear hK0 K0
    try simp only [Act.put, List.getElem_toArray, List.getElem_cons_zero, List.getElem_cons_succ, List.setIfInBounds_toArray, List.set_cons_zero, List.set_cons_succ]
    refine wpAnyH_take (i := 6) (oi := _) (v := ?vz21u7) rfl (by kernel_rfl) (by kernel_rfl) (by kernel_rfl) (fun _ _ _ h => h) (Or.inl ⟨by rfl, ?hyz21u7⟩) hHeld ?restz21u7
    case hyz21u7 => (intro w hSw; (try dsimp only at hSw); go_simp; first | done | with_reducible rfl)
    try simp only [Act.put, List.getElem_toArray, List.getElem_cons_zero, List.getElem_cons_succ, List.setIfInBounds_toArray, List.set_cons_zero, List.set_cons_succ]
    refine wpAnyH_done (by kernel_rfl) ?_ _
    clear K hHeld
    replace VP := VP.kept (thenB (Below.refl _ _).drew bz21v6)
    replace VX := VX.kept (thenB (Below.refl _ _).drew bz21v6)
    replace VR := VR.kept (thenB (Below.refl _ _).drew bz21v6)
    replace H := H.kept (thenB (Below.refl _ _).drew bz21v6)
    replace S := S.trans (Sm.below (thenB (Below.refl _ _).drew bz21v6))
    have Sz21 := ((thenB (Below.refl _ _).drew bz21v6)).size
    simp only [World.size_alloc] at Sz21
    clear bz21v6
    obtain ⟨s_VP, f_VP, z_VP⟩ := VP.open
    obtain ⟨s_VX, f_VX, z_VX⟩ := VX.open
    obtain ⟨s_VR, f_VR, z_VR⟩ := VR.open
    have QL := fun dd => H.m.look ht dd
    rw [HM] at QL
    simp only [Option.isSome_some, Option.getD_some] at QL
    go_wp2_with fail
    go_quiet (fail)
    clear s_VP f_VP z_VP s_VX f_VX z_VX s_VR f_VR z_VR
    have bq := belowN (Below.refl (wz21v6).heap.size (wz21v6)) nq
    replace VP := VP.kept bq
    replace VX := VX.kept bq
    replace VR := VR.kept bq
    replace H := H.kept bq
    replace S := S.trans (Sm.below bq)
    clear bq
    generalize World.drewN wz21v6 nq = wn21 at *
    obtain ⟨s_VP, f_VP, z_VP⟩ := VP.open
    obtain ⟨s_VX, f_VX, z_VX⟩ := VX.open
    obtain ⟨s_VR, f_VR, z_VR⟩ := VR.open
    clear QL
    clear s_VP f_VP z_VP s_VX f_VX z_VX s_VR f_VR z_VR
    have VF := Hid.mk (VR.filled [.int .i64 0, .int .i64 ix] rfl)
    have HT := Hid.mk VR.there
    have SR := Hid.mk (Sm.newCells S (show w.heap.size ≤ w.heap.size + 1 by (first | omega | (simp; done) | (simp; omega))) 0 [.int .i64 0, .int .i64 ix])
    have HH := Hid.mk (H.apart (B := w.heap.size + 1) (by intro k hk; have := HX.out k hk; omega) 0 [.int .i64 0, .int .i64 ix])
    obtain ⟨s_VP, f_VP, z_VP⟩ := VP.open
    obtain ⟨s_VX, f_VX, z_VX⟩ := VX.open
    obtain ⟨s_VR, f_VR, z_VR⟩ := VR.open
    go_wp2_with (refine wpList_store_mid rfl 36 _ _ rfl (w.heap.size + 1) 0 #[.int .i64 0, .int .i64 ix] rfl rfl HT.out (by kernel_rfl) (by kernel_rfl) ?_)
    refine bodyPost_ret (v := .agg #[.int .i64 0, .int .i64 ix]) (results_row Tryd.results47 _ _ (w.heap.size + 1) [.int .i64 0, .int .i64 ix] _ rfl VF.out Tryd.underlying36 rfl (by kernel_rfl)) rfl ⟨c, d, by rw [PE.out], by rw [PL.out]; exact HH.out, SR.out, fun _ h _ => h⟩
  · have HM := hM0 h2
    have h4 : n = 400 := by omega
    subst h4
    have PE : Hid (put xs t = ⟨2, 0, []⟩) := Hid.mk hr
    have PL : Hid (putL xs t = xs) := Hid.mk (by unfold putL; rw [hr, if_neg (by decide)])
    rw [h1] at CF
    clear hr h1 h2
    go_enter Tryd.func47, Tryd.ntmps47
    have S := Sm.refl (BkX p g c) w
    replace VP := VP.kept (belowA w (.cells #[.int .i64 t.o, .int .i64 t.a, .int .i64 t.b, .int .i64 t.n] 70))
    replace H := H.kept (belowA w (.cells #[.int .i64 t.o, .int .i64 t.a, .int .i64 t.b, .int .i64 t.n] 70))
    replace S := S.trans (Sm.below (belowA w (.cells #[.int .i64 t.o, .int .i64 t.a, .int .i64 t.b, .int .i64 t.n] 70)))
    have VX := V.new w [.int .i64 t.o, .int .i64 t.a, .int .i64 t.b, .int .i64 t.n] 70
    replace VP := VP.kept (belowA (w.alloc (.cells #[.int .i64 t.o, .int .i64 t.a, .int .i64 t.b, .int .i64 t.n] 70)) (.cells #[.int .i64 0, .int .i64 0] 36))
    replace VX := VX.kept (belowA (w.alloc (.cells #[.int .i64 t.o, .int .i64 t.a, .int .i64 t.b, .int .i64 t.n] 70)) (.cells #[.int .i64 0, .int .i64 0] 36))
    replace H := H.kept (belowA (w.alloc (.cells #[.int .i64 t.o, .int .i64 t.a, .int .i64 t.b, .int .i64 t.n] 70)) (.cells #[.int .i64 0, .int .i64 0] 36))
    replace S := S.trans (Sm.below (belowA (w.alloc (.cells #[.int .i64 t.o, .int .i64 t.a, .int .i64 t.b, .int .i64 t.n] 70)) (.cells #[.int .i64 0, .int .i64 0] 36)))
    have VR : V ((w.alloc (.cells #[.int .i64 t.o, .int .i64 t.a, .int .i64 t.b, .int .i64 t.n] 70)).alloc (.cells #[.int .i64 0, .int .i64 0] 36)) (w.heap.size + 1) [.int .i64 0, .int .i64 0] := V.newAt _ _ _ _ (by simp)
    obtain ⟨s_VP, f_VP, z_VP⟩ := VP.open
    obtain ⟨s_VX, f_VX, z_VX⟩ := VX.open
    obtain ⟨s_VR, f_VR, z_VR⟩ := VR.open
    clear s_VP f_VP z_VP s_VX f_VX z_VX s_VR f_VR z_VR
    have K : ∀ w' : World, Below ((w.alloc (.cells #[.int .i64 t.o, .int .i64 t.a, .int .i64 t.b, .int .i64 t.n] 70)).alloc (.cells #[.int .i64 0, .int .i64 0] 36)).heap.size ((w.alloc (.cells #[.int .i64 t.o, .int .i64 t.a, .int .i64 t.b, .int .i64 t.n] 70)).alloc (.cells #[.int .i64 0, .int .i64 0] 36)) w' → (w'.cell? ⟨w.heap.size, 0, none⟩ = some (.int .i64 t.o) ∧ w'.cell? ⟨w.heap.size, 1, none⟩ = some (.int .i64 t.a) ∧ w'.cell? ⟨w.heap.size, 2, none⟩ = some (.int .i64 t.b) ∧ w'.cell? ⟨w.heap.size, 3, none⟩ = some (.int .i64 t.n) ∧ w'.cell? ⟨p, 0, none⟩ = some (.slice c 400 d) ∧ w'.cell? ⟨p, 1, none⟩ = some (.map (some g))) := fun w' h => ⟨(VX.kept h).2.1 0 (by simp), (VX.kept h).2.1 1 (by simp), (VX.kept h).2.1 2 (by simp), (VX.kept h).2.1 3 (by simp), (VP.kept h).2.1 0 (by simp), (VP.kept h).2.1 1 (by simp)⟩
    have K := Hid.mk K
    go_wp2_with fail
    refine wp_region_held_drew (S := (fun w' => w'.cell? ⟨w.heap.size, 0, none⟩ = some (.int .i64 t.o) ∧ w'.cell? ⟨w.heap.size, 1, none⟩ = some (.int .i64 t.a) ∧ w'.cell? ⟨w.heap.size, 2, none⟩ = some (.int .i64 t.b) ∧ w'.cell? ⟨w.heap.size, 3, none⟩ = some (.int .i64 t.n) ∧ w'.cell? ⟨p, 0, none⟩ = some (.slice c 400 d) ∧ w'.cell? ⟨p, 1, none⟩ = some (.map (some g)))) (by kernel_rfl) (K.out _ (Below.refl _ _).drew) (fun hHeld => ?_)
    refine wpAnyH_take (i := 0) (oi := _) (v := ?vz41u1) rfl (by kernel_rfl) (by kernel_rfl) (by kernel_rfl) (fun _ _ _ h => h) (Or.inl ⟨by rfl, ?hyz41u1⟩) hHeld ?restz41u1
    case hyz41u1 => (intro w hSw; (try dsimp only at hSw); go_simp; first | done | with_reducible rfl)
    try simp only [Act.put, List.getElem_toArray, List.getElem_cons_zero, List.setIfInBounds_toArray, List.set_cons_zero, List.set_cons_succ]
    refine wpAnyH_take (i := 1) (oi := _) (v := ?vz41u2) rfl (by kernel_rfl) (by kernel_rfl) (by kernel_rfl) (fun _ _ _ h => h) (Or.inl ⟨by rfl, ?hyz41u2⟩) hHeld ?restz41u2
    case hyz41u2 => (intro w hSw; (try dsimp only at hSw); go_simp; first | done | with_reducible rfl)
    try simp only [Act.put, List.getElem_toArray, List.getElem_cons_zero, List.getElem_cons_succ, List.setIfInBounds_toArray, List.set_cons_zero, List.set_cons_succ]
    refine wpAnyH_take (i := 2) (oi := _) (v := ?vz41u3) rfl (by kernel_rfl) (by kernel_rfl) (by kernel_rfl) (fun _ _ _ h => h) (Or.inl ⟨by rfl, ?hyz41u3⟩) hHeld ?restz41u3
    case hyz41u3 => (intro w hSw; (try dsimp only at hSw); go_simp; first | done | with_reducible rfl)
    try simp only [Act.put, List.getElem_toArray, List.getElem_cons_zero, List.getElem_cons_succ, List.setIfInBounds_toArray, List.set_cons_zero, List.set_cons_succ]
    refine wpAnyH_take (i := 3) (oi := _) (v := ?vz41u4) rfl (by kernel_rfl) (by kernel_rfl) (by kernel_rfl) (fun _ _ _ h => h) (Or.inl ⟨by rfl, ?hyz41u4⟩) hHeld ?restz41u4
    case hyz41u4 => (intro w hSw; (try dsimp only at hSw); go_simp; first | done | with_reducible rfl)
    try simp only [Act.put, List.getElem_toArray, List.getElem_cons_zero, List.getElem_cons_succ, List.setIfInBounds_toArray, List.set_cons_zero, List.set_cons_succ]
    refine wpAnyH_take (i := 4) (oi := _) (v := ?vz41u5) rfl (by kernel_rfl) (by kernel_rfl) (by kernel_rfl) (fun _ _ _ h => h) (Or.inl ⟨by rfl, ?hyz41u5⟩) hHeld ?restz41u5
    case hyz41u5 => (intro w hSw; (try dsimp only at hSw); go_simp; first | done | with_reducible rfl)
    try simp only [Act.put, List.getElem_toArray, List.getElem_cons_zero, List.getElem_cons_succ, List.setIfInBounds_toArray, List.set_cons_zero, List.set_cons_succ]
    refine wpAnyH_ready (rs := [5]) (by kernel_rfl) (by simp) ?_
    refine AllReadyH.cons (o := _) rfl (fun K0 hK0 => ?_) AllReadyH.nil
    go_simp
    go_at_call 44
    refine (CF.out _ (H.o.rd.kept (Below.refl _ _).drew)).mono ?_
    rintro e wz41v6 ⟨rfl, bz41v6⟩
    refine hK0.out _ _ (K.out _ (thenB (Below.refl _ _).drew bz41v6)) (fun hHeld => ?_)
    clear hK0 K0
    try simp only [Act.put, List.getElem_toArray, List.getElem_cons_zero, List.getElem_cons_succ, List.setIfInBounds_toArray, List.set_cons_zero, List.set_cons_succ]
    refine wpAnyH_take (i := 6) (oi := _) (v := ?vz41u7) rfl (by kernel_rfl) (by kernel_rfl) (by kernel_rfl) (fun _ _ _ h => h) (Or.inl ⟨by rfl, ?hyz41u7⟩) hHeld ?restz41u7
    case hyz41u7 => (intro w hSw; (try dsimp only at hSw); go_simp; first | done | with_reducible rfl)
    try simp only [Act.put, List.getElem_toArray, List.getElem_cons_zero, List.getElem_cons_succ, List.setIfInBounds_toArray, List.set_cons_zero, List.set_cons_succ]
    refine wpAnyH_done (by kernel_rfl) ?_ _
    clear K hHeld
    replace VP := VP.kept (thenB (Below.refl _ _).drew bz41v6)
    replace VX := VX.kept (thenB (Below.refl _ _).drew bz41v6)
    replace VR := VR.kept (thenB (Below.refl _ _).drew bz41v6)
    replace H := H.kept (thenB (Below.refl _ _).drew bz41v6)
    replace S := S.trans (Sm.below (thenB (Below.refl _ _).drew bz41v6))
    have Sz41 := ((thenB (Below.refl _ _).drew bz41v6)).size
    simp only [World.size_alloc] at Sz41
    clear bz41v6
    obtain ⟨s_VP, f_VP, z_VP⟩ := VP.open
    obtain ⟨s_VX, f_VX, z_VX⟩ := VX.open
    obtain ⟨s_VR, f_VR, z_VR⟩ := VR.open
    have QL := fun dd => H.m.look ht dd
    rw [HM] at QL
    simp only [Option.isSome_none, Option.getD_none] at QL
    go_wp2_with fail
    go_quiet (fail)
    clear s_VP f_VP z_VP s_VX f_VX z_VX s_VR f_VR z_VR
    have bq := belowN (Below.refl (wz41v6).heap.size (wz41v6)) nq
    replace VP := VP.kept bq
    replace VX := VX.kept bq
    replace VR := VR.kept bq
    replace H := H.kept bq
    replace S := S.trans (Sm.below bq)
    clear bq
    generalize World.drewN wz41v6 nq = wn41 at *
    obtain ⟨s_VP, f_VP, z_VP⟩ := VP.open
    obtain ⟨s_VX, f_VX, z_VX⟩ := VX.open
    obtain ⟨s_VR, f_VR, z_VR⟩ := VR.open
    clear QL
    clear s_VP f_VP z_VP s_VX f_VX z_VX s_VR f_VR z_VR
    have VF := Hid.mk (VR.filled [.int .i64 2, .int .i64 0] rfl)
    have HT := Hid.mk VR.there
    have SR := Hid.mk (Sm.newCells S (show w.heap.size ≤ w.heap.size + 1 by (first | omega | (simp; done) | (simp; omega))) 0 [.int .i64 2, .int .i64 0])
    have HH := Hid.mk (H.apart (B := w.heap.size + 1) (by intro k hk; have := HX.out k hk; omega) 0 [.int .i64 2, .int .i64 0])
    obtain ⟨s_VP, f_VP, z_VP⟩ := VP.open
    obtain ⟨s_VX, f_VX, z_VX⟩ := VX.open
    obtain ⟨s_VR, f_VR, z_VR⟩ := VR.open
    go_wp2_with (refine wpList_store_mid rfl 36 _ _ rfl (w.heap.size + 1) 0 #[.int .i64 2, .int .i64 0] rfl rfl HT.out (by kernel_rfl) (by kernel_rfl) ?_)
    refine bodyPost_ret (v := .agg #[.int .i64 2, .int .i64 0]) (results_row Tryd.results47 _ _ (w.heap.size + 1) [.int .i64 2, .int .i64 0] _ rfl VF.out Tryd.underlying36 rfl (by kernel_rfl)) rfl ⟨c, d, by rw [PE.out], by rw [PL.out]; exact HH.out, SR.out, fun _ h _ => h⟩
  · have HM := hM0 h2
    have h4 : ((n : Int) == 400) = false := by rw [beq_eq_false_iff_ne]; omega
    have PE : Hid (put xs t = ⟨0, (n : Nat), xs ++ [t]⟩) := Hid.mk hr
    have PL : Hid (putL xs t = xs ++ [t]) := Hid.mk (by unfold putL; rw [hr]; rfl)
    have CA := Hid.mk (fun w h => add_ok base p g c d xs t w h ht h2 (by have := hnn.out; omega))
    rw [hnn.out] at CA
    rw [h1] at CF
    clear hr h1 h2
    go_enter Tryd.func47, Tryd.ntmps47
    have S := Sm.refl (BkX p g c) w
    replace VP := VP.kept (belowA w (.cells #[.int .i64 t.o, .int .i64 t.a, .int .i64 t.b, .int .i64 t.n] 70))
    replace H := H.kept (belowA w (.cells #[.int .i64 t.o, .int .i64 t.a, .int .i64 t.b, .int .i64 t.n] 70))
    replace S := S.trans (Sm.below (belowA w (.cells #[.int .i64 t.o, .int .i64 t.a, .int .i64 t.b, .int .i64 t.n] 70)))
    have VX := V.new w [.int .i64 t.o, .int .i64 t.a, .int .i64 t.b, .int .i64 t.n] 70
    replace VP := VP.kept (belowA (w.alloc (.cells #[.int .i64 t.o, .int .i64 t.a, .int .i64 t.b, .int .i64 t.n] 70)) (.cells #[.int .i64 0, .int .i64 0] 36))
    replace VX := VX.kept (belowA (w.alloc (.cells #[.int .i64 t.o, .int .i64 t.a, .int .i64 t.b, .int .i64 t.n] 70)) (.cells #[.int .i64 0, .int .i64 0] 36))
    replace H := H.kept (belowA (w.alloc (.cells #[.int .i64 t.o, .int .i64 t.a, .int .i64 t.b, .int .i64 t.n] 70)) (.cells #[.int .i64 0, .int .i64 0] 36))
    replace S := S.trans (Sm.below (belowA (w.alloc (.cells #[.int .i64 t.o, .int .i64 t.a, .int .i64 t.b, .int .i64 t.n] 70)) (.cells #[.int .i64 0, .int .i64 0] 36)))
    have VR : V ((w.alloc (.cells #[.int .i64 t.o, .int .i64 t.a, .int .i64 t.b, .int .i64 t.n] 70)).alloc (.cells #[.int .i64 0, .int .i64 0] 36)) (w.heap.size + 1) [.int .i64 0, .int .i64 0] := V.newAt _ _ _ _ (by simp)
    obtain ⟨s_VP, f_VP, z_VP⟩ := VP.open
    obtain ⟨s_VX, f_VX, z_VX⟩ := VX.open
    obtain ⟨s_VR, f_VR, z_VR⟩ := VR.open
    clear s_VP f_VP z_VP s_VX f_VX z_VX s_VR f_VR z_VR
    have K : ∀ w' : World, Below ((w.alloc (.cells #[.int .i64 t.o, .int .i64 t.a, .int .i64 t.b, .int .i64 t.n] 70)).alloc (.cells #[.int .i64 0, .int .i64 0] 36)).heap.size ((w.alloc (.cells #[.int .i64 t.o, .int .i64 t.a, .int .i64 t.b, .int .i64 t.n] 70)).alloc (.cells #[.int .i64 0, .int .i64 0] 36)) w' → (w'.cell? ⟨w.heap.size, 0, none⟩ = some (.int .i64 t.o) ∧ w'.cell? ⟨w.heap.size, 1, none⟩ = some (.int .i64 t.a) ∧ w'.cell? ⟨w.heap.size, 2, none⟩ = some (.int .i64 t.b) ∧ w'.cell? ⟨w.heap.size, 3, none⟩ = some (.int .i64 t.n) ∧ w'.cell? ⟨p, 0, none⟩ = some (.slice c n d) ∧ w'.cell? ⟨p, 1, none⟩ = some (.map (some g))) := fun w' h => ⟨(VX.kept h).2.1 0 (by simp), (VX.kept h).2.1 1 (by simp), (VX.kept h).2.1 2 (by simp), (VX.kept h).2.1 3 (by simp), (VP.kept h).2.1 0 (by simp), (VP.kept h).2.1 1 (by simp)⟩
    have K := Hid.mk K
    go_wp2_with fail
    refine wp_region_held_drew (S := (fun w' => w'.cell? ⟨w.heap.size, 0, none⟩ = some (.int .i64 t.o) ∧ w'.cell? ⟨w.heap.size, 1, none⟩ = some (.int .i64 t.a) ∧ w'.cell? ⟨w.heap.size, 2, none⟩ = some (.int .i64 t.b) ∧ w'.cell? ⟨w.heap.size, 3, none⟩ = some (.int .i64 t.n) ∧ w'.cell? ⟨p, 0, none⟩ = some (.slice c n d) ∧ w'.cell? ⟨p, 1, none⟩ = some (.map (some g)))) (by kernel_rfl) (K.out _ (Below.refl _ _).drew) (fun hHeld => ?_)
    refine wpAnyH_take (i := 0) (oi := _) (v := ?vz61u1) rfl (by kernel_rfl) (by kernel_rfl) (by kernel_rfl) (fun _ _ _ h => h) (Or.inl ⟨by rfl, ?hyz61u1⟩) hHeld ?restz61u1
    case hyz61u1 => (intro w hSw; (try dsimp only at hSw); go_simp; first | done | with_reducible rfl)
    try simp only [Act.put, List.getElem_toArray, List.getElem_cons_zero, List.setIfInBounds_toArray, List.set_cons_zero, List.set_cons_succ]
    refine wpAnyH_take (i := 1) (oi := _) (v := ?vz61u2) rfl (by kernel_rfl) (by kernel_rfl) (by kernel_rfl) (fun _ _ _ h => h) (Or.inl ⟨by rfl, ?hyz61u2⟩) hHeld ?restz61u2
    case hyz61u2 => (intro w hSw; (try dsimp only at hSw); go_simp; first | done | with_reducible rfl)
    try simp only [Act.put, List.getElem_toArray, List.getElem_cons_zero, List.getElem_cons_succ, List.setIfInBounds_toArray, List.set_cons_zero, List.set_cons_succ]
    refine wpAnyH_take (i := 2) (oi := _) (v := ?vz61u3) rfl (by kernel_rfl) (by kernel_rfl) (by kernel_rfl) (fun _ _ _ h => h) (Or.inl ⟨by rfl, ?hyz61u3⟩) hHeld ?restz61u3
    case hyz61u3 => (intro w hSw; (try dsimp only at hSw); go_simp; first | done | with_reducible rfl)
    try simp only [Act.put, List.getElem_toArray, List.getElem_cons_zero, List.getElem_cons_succ, List.setIfInBounds_toArray, List.set_cons_zero, List.set_cons_succ]
    refine wpAnyH_take (i := 3) (oi := _) (v := ?vz61u4) rfl (by kernel_rfl) (by kernel_rfl) (by kernel_rfl) (fun _ _ _ h => h) (Or.inl ⟨by rfl, ?hyz61u4⟩) hHeld ?restz61u4
    case hyz61u4 => (intro w hSw; (try dsimp only at hSw); go_simp; first | done | with_reducible rfl)
    try simp only [Act.put, List.getElem_toArray, List.getElem_cons_zero, List.getElem_cons_succ, List.setIfInBounds_toArray, List.set_cons_zero, List.set_cons_succ]
    refine wpAnyH_take (i := 4) (oi := _) (v := ?vz61u5) rfl (by kernel_rfl) (by kernel_rfl) (by kernel_rfl) (fun _ _ _ h => h) (Or.inl ⟨by rfl, ?hyz61u5⟩) hHeld ?restz61u5
    case hyz61u5 => (intro w hSw; (try dsimp only at hSw); go_simp; first | done | with_reducible rfl)
    try simp only [Act.put, List.getElem_toArray, List.getElem_cons_zero, List.getElem_cons_succ, List.setIfInBounds_toArray, List.set_cons_zero, List.set_cons_succ]
    refine wpAnyH_ready (rs := [5]) (by kernel_rfl) (by simp) ?_
    refine AllReadyH.cons (o := _) rfl (fun K0 hK0 => ?_) AllReadyH.nil
    go_simp
    go_at_call 44
    refine (CF.out _ (H.o.rd.kept (Below.refl _ _).drew)).mono ?_
    rintro e wz61v6 ⟨rfl, bz61v6⟩
    refine hK0.out _ _ (K.out _ (thenB (Below.refl _ _).drew bz61v6)) (fun hHeld => ?_)
    clear hK0 K0
    try simp only [Act.put, List.getElem_toArray, List.getElem_cons_zero, List.getElem_cons_succ, List.setIfInBounds_toArray, List.set_cons_zero, List.set_cons_succ]
    refine wpAnyH_take (i := 6) (oi := _) (v := ?vz61u7) rfl (by kernel_rfl) (by kernel_rfl) (by kernel_rfl) (fun _ _ _ h => h) (Or.inl ⟨by rfl, ?hyz61u7⟩) hHeld ?restz61u7
    case hyz61u7 => (intro w hSw; (try dsimp only at hSw); go_simp; first | done | with_reducible rfl)
    try simp only [Act.put, List.getElem_toArray, List.getElem_cons_zero, List.getElem_cons_succ, List.setIfInBounds_toArray, List.set_cons_zero, List.set_cons_succ]
    refine wpAnyH_done (by kernel_rfl) ?_ _
    clear K hHeld
    replace VP := VP.kept (thenB (Below.refl _ _).drew bz61v6)
    replace VX := VX.kept (thenB (Below.refl _ _).drew bz61v6)
    replace VR := VR.kept (thenB (Below.refl _ _).drew bz61v6)
    replace H := H.kept (thenB (Below.refl _ _).drew bz61v6)
    replace S := S.trans (Sm.below (thenB (Below.refl _ _).drew bz61v6))
    have Sz61 := ((thenB (Below.refl _ _).drew bz61v6)).size
    simp only [World.size_alloc] at Sz61
    clear bz61v6
    obtain ⟨s_VP, f_VP, z_VP⟩ := VP.open
    obtain ⟨s_VX, f_VX, z_VX⟩ := VX.open
    obtain ⟨s_VR, f_VR, z_VR⟩ := VR.open
    have QL := fun dd => H.m.look ht dd
    rw [HM] at QL
    simp only [Option.isSome_none, Option.getD_none] at QL
    go_wp2_with fail
    go_quiet (fail)
    clear s_VP f_VP z_VP s_VX f_VX z_VX s_VR f_VR z_VR
    have bq := belowN (Below.refl (wz61v6).heap.size (wz61v6)) nq
    replace VP := VP.kept bq
    replace VX := VX.kept bq
    replace VR := VR.kept bq
    replace H := H.kept bq
    replace S := S.trans (Sm.below bq)
    clear bq
    generalize World.drewN wz61v6 nq = wn61 at *
    obtain ⟨s_VP, f_VP, z_VP⟩ := VP.open
    obtain ⟨s_VX, f_VX, z_VX⟩ := VX.open
    obtain ⟨s_VR, f_VR, z_VR⟩ := VR.open
    clear QL
    have VRl := VR.1
    go_wp2_with fail
    refine (CA.out _ H).mono ?_
    rintro e w9 ⟨c9, d9, rfl, H9, S9, hx9⟩
    clear s_VP f_VP z_VP s_VX f_VX z_VX s_VR f_VR z_VR
    replace VR := VR.sm S9 (fun e => by have := HX.out _ e; omega)
    have SL := S.size
    replace S := S.trans S9
    have hx9o := hx9
    have hsz9 : w.heap.size + 1 < w9.heap.size := VR.1
    replace hx9 : Hid (∀ k, BkX p g c9 k → k < w.heap.size → BkX p g c k) := Hid.mk (fun k hk hl => hx9 k hk (by omega))
    have hvr := VR.1
    have HX9 : Hid (∀ k, BkX p g c9 k → k ≠ w.heap.size + 1) := Hid.mk (fun k hk e => by have := HX.out k (hx9o k hk (by omega)); omega)
    clear S9 H VP VX
    have VF := Hid.mk (VR.filled [.int .i64 0, .int .i64 n] rfl)
    have HT := Hid.mk VR.there
    have SR := Hid.mk (Sm.newCells S (show w.heap.size ≤ w.heap.size + 1 by (first | omega | (simp; done) | (simp; omega))) 0 [.int .i64 0, .int .i64 n])
    have HH := Hid.mk (H9.apart (B := w.heap.size + 1) HX9.out 0 [.int .i64 0, .int .i64 n])
    clear H9
    obtain ⟨s_VR, f_VR, z_VR⟩ := VR.open
    go_wp2_with (refine wpList_store_mid rfl 36 _ _ rfl (w.heap.size + 1) 0 #[.int .i64 0, .int .i64 n] rfl rfl HT.out (by kernel_rfl) (by kernel_rfl) ?_)
    refine bodyPost_ret (v := .agg #[.int .i64 0, .int .i64 n]) (results_row Tryd.results47 _ _ (w.heap.size + 1) [.int .i64 0, .int .i64 n] _ rfl VF.out Tryd.underlying36 rfl (by kernel_rfl)) rfl ⟨c9, d9, by rw [PE.out], by rw [PL.out]; exact HH.out, SR.out, hx9.out⟩

end Go.Proofs.YthjaehcfakjemaaDoor
