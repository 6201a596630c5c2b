/- 'AnySel': both sides. -/
import Derived.Test.YtmbkbbephmblmabSelR
import Derived.Test.YtmbkbbephmblmabSelF
import Derived.Test.YtmbkbbephmblmabSelG
import Derived.Test.YtmbkbbephmblmabSelH
namespace Go.Proofs.Ytmbkbbephmblmab
open Go.RowKit


set_option maxHeartbeats 2000000 in
theorem implAny0 (p : Int) (w : World) (h1 : btw p 0 255 = false) :
    Calls Try.prog 32 #[.int .i64 p] w fun e w' => e = .returned (.agg #[.int .i64 3, .int .i64 0, .int .i64 0, .int .i64 0, .int .i64 0, .int .i64 0, .int .i64 0, .int .i64 0, .int .i64 0, .int .i64 0]) ∧ Below w.heap.size w w' := by
  have qa := build_resA
  have q1 := build_rng1
  have qb := build_resB ⟨0, 4294967295, 0, 4294967295, 0, 65535, 0, 65535, p⟩
  dsimp only at qb
  have CZ := selOf_ok ⟨0, 4294967295, 0, 4294967295, 0, 65535, 0, 65535, p⟩
  dsimp only at CZ
  replace CZ := Hid.mk CZ
  go_enter Try.func32, Try.ntmps32
  have B := Below.refl w.heap.size w
  replace B := thenB B (belowA w (.cells #[.int .i64 0, .int .i64 0, .int .i64 0, .int .i64 0, .int .i64 0, .int .i64 0, .int .i64 0, .int .i64 0, .int .i64 0, .int .i64 0] 56))
  have VR := V.new w [.int .i64 0, .int .i64 0, .int .i64 0, .int .i64 0, .int .i64 0, .int .i64 0, .int .i64 0, .int .i64 0, .int .i64 0, .int .i64 0] 56
  obtain ⟨s_VR, f_VR, z_VR⟩ := VR.open
  have Bo := B
  go_wp2_with (first | (go_at_call 53; refine (isBetween_ok _ _ _ _).mono ?_; rintro e wq ⟨rfl, rfl⟩) | fail)
  refine bodyPost_ret (v := .agg #[.int .i64 3, .int .i64 0, .int .i64 0, .int .i64 0, .int .i64 0, .int .i64 0, .int .i64 0, .int .i64 0, .int .i64 0, .int .i64 0]) (by first | (simp [results, Try.results32, go_sem]; done) | simp [results, Try.results32, go_sem, f_VR]) rfl ⟨rfl, ?_⟩
  repeat' first | with_reducible exact Bo | with_reducible exact Below.refl _ _ | with_reducible refine Below.setCell ?_ ?_ _ | with_reducible refine Below.alloc ?_ ?_ _ | with_reducible refine Below.drew ?_ | (simp; done) | (simp; omega)

set_option maxHeartbeats 2000000 in
theorem implAny1 (p : Int) (w : World) (h1 : btw p 0 255 = true) :
    Calls Try.prog 32 #[.int .i64 p] w fun e w' => e = .returned (.agg #[.int .i64 0, .int .i64 0, .int .i64 4294967295, .int .i64 0, .int .i64 4294967295, .int .i64 0, .int .i64 65535, .int .i64 0, .int .i64 65535, .int .i64 p]) ∧ Below w.heap.size w w' := by
  have qa := build_resA
  have q1 := build_rng1
  have qb := build_resB ⟨0, 4294967295, 0, 4294967295, 0, 65535, 0, 65535, p⟩
  dsimp only at qb
  have CZ := selOf_ok ⟨0, 4294967295, 0, 4294967295, 0, 65535, 0, 65535, p⟩
  dsimp only at CZ
  replace CZ := Hid.mk CZ
  go_enter Try.func32, Try.ntmps32
  have B := Below.refl w.heap.size w
  replace B := thenB B (belowA w (.cells #[.int .i64 0, .int .i64 0, .int .i64 0, .int .i64 0, .int .i64 0, .int .i64 0, .int .i64 0, .int .i64 0, .int .i64 0, .int .i64 0] 56))
  have VR := V.new w [.int .i64 0, .int .i64 0, .int .i64 0, .int .i64 0, .int .i64 0, .int .i64 0, .int .i64 0, .int .i64 0, .int .i64 0, .int .i64 0] 56
  obtain ⟨s_VR, f_VR, z_VR⟩ := VR.open
  have Bo := B
  go_wp2_with (first | (go_at_call 53; refine (isBetween_ok _ _ _ _).mono ?_; rintro e wq ⟨rfl, rfl⟩) | fail)
  refine (wholeSpans_ok _).mono ?_
  rintro e w1 ⟨rfl, b1⟩
  clear s_VR f_VR z_VR
  have S1 := b1.size
  simp only [World.size_alloc] at S1
  replace VR := VR.kept b1
  replace B := thenB B b1
  clear b1
  obtain ⟨s_VR, f_VR, z_VR⟩ := VR.open
  have Bo := B
  go_wp2_with fail
  refine (CZ.out _).mono ?_
  rintro e w2 ⟨rfl, b2⟩
  clear s_VR f_VR z_VR
  have S2 := b2.size
  replace VR := VR.kept b2
  replace B := thenB B b2
  clear b2
  obtain ⟨s_VR, f_VR, z_VR⟩ := VR.open
  have Bo := B
  go_wp2
  refine bodyPost_ret (v := .agg #[.int .i64 0, .int .i64 0, .int .i64 4294967295, .int .i64 0, .int .i64 4294967295, .int .i64 0, .int .i64 65535, .int .i64 0, .int .i64 65535, .int .i64 p]) (by first | (simp [results, Try.results32, go_sem]; done) | simp [results, Try.results32, go_sem, f_VR]) rfl ⟨rfl, ?_⟩
  repeat' first | with_reducible exact Bo | with_reducible exact Below.refl _ _ | with_reducible refine Below.setCell ?_ ?_ _ | with_reducible refine Below.alloc ?_ ?_ _ | with_reducible refine Below.drew ?_ | (simp; done) | (simp; omega)

set_option maxHeartbeats 2000000 in
theorem specAny0 (p : Int) (w : World) (h1 : btw p 0 255 = false) :
    Calls Try.prog 31 #[.int .i64 p] w fun e w' => e = .returned (.agg #[.int .i64 3, .int .i64 0, .int .i64 0, .int .i64 0, .int .i64 0, .int .i64 0, .int .i64 0, .int .i64 0, .int .i64 0, .int .i64 0]) ∧ Below w.heap.size w w' := by
  have qa := build_resA
  have q1 := build_rng1
  have qb := build_resB ⟨0, 4294967295, 0, 4294967295, 0, 65535, 0, 65535, p⟩
  dsimp only at qb
  have qs := build_sel ⟨0, 4294967295, 0, 4294967295, 0, 65535, 0, 65535, p⟩
  dsimp only at qs
  go_enter Try.func31, Try.ntmps31
  have B := Below.refl w.heap.size w
  replace B := thenB B (belowA w (.cells #[.int .i64 0, .int .i64 0, .int .i64 0, .int .i64 0, .int .i64 0, .int .i64 0, .int .i64 0, .int .i64 0, .int .i64 0, .int .i64 0] 56))
  have VR := V.new w [.int .i64 0, .int .i64 0, .int .i64 0, .int .i64 0, .int .i64 0, .int .i64 0, .int .i64 0, .int .i64 0, .int .i64 0, .int .i64 0] 56
  obtain ⟨s_VR, f_VR, z_VR⟩ := VR.open
  have Bo := B
  go_wp2_with (first | (go_at_call 51; refine (l1In_ok _ _ _ _).mono ?_; rintro e wq ⟨rfl, rfl⟩) | fail)
  refine bodyPost_ret (v := .agg #[.int .i64 3, .int .i64 0, .int .i64 0, .int .i64 0, .int .i64 0, .int .i64 0, .int .i64 0, .int .i64 0, .int .i64 0, .int .i64 0]) (by first | (simp [results, Try.results31, go_sem]; done) | simp [results, Try.results31, go_sem, f_VR]) rfl ⟨rfl, ?_⟩
  repeat' first | with_reducible exact Bo | with_reducible exact Below.refl _ _ | with_reducible refine Below.setCell ?_ ?_ _ | with_reducible refine Below.alloc ?_ ?_ _ | with_reducible refine Below.drew ?_ | (simp; done) | (simp; omega)

set_option maxHeartbeats 2000000 in
theorem specAny1 (p : Int) (w : World) (h1 : btw p 0 255 = true) :
    Calls Try.prog 31 #[.int .i64 p] w fun e w' => e = .returned (.agg #[.int .i64 0, .int .i64 0, .int .i64 4294967295, .int .i64 0, .int .i64 4294967295, .int .i64 0, .int .i64 65535, .int .i64 0, .int .i64 65535, .int .i64 p]) ∧ Below w.heap.size w w' := by
  have qa := build_resA
  have q1 := build_rng1
  have qb := build_resB ⟨0, 4294967295, 0, 4294967295, 0, 65535, 0, 65535, p⟩
  dsimp only at qb
  have qs := build_sel ⟨0, 4294967295, 0, 4294967295, 0, 65535, 0, 65535, p⟩
  dsimp only at qs
  go_enter Try.func31, Try.ntmps31
  have B := Below.refl w.heap.size w
  replace B := thenB B (belowA w (.cells #[.int .i64 0, .int .i64 0, .int .i64 0, .int .i64 0, .int .i64 0, .int .i64 0, .int .i64 0, .int .i64 0, .int .i64 0, .int .i64 0] 56))
  have VR := V.new w [.int .i64 0, .int .i64 0, .int .i64 0, .int .i64 0, .int .i64 0, .int .i64 0, .int .i64 0, .int .i64 0, .int .i64 0, .int .i64 0] 56
  obtain ⟨s_VR, f_VR, z_VR⟩ := VR.open
  have Bo := B
  go_wp2_with (first | (go_at_call 51; refine (l1In_ok _ _ _ _).mono ?_; rintro e wq ⟨rfl, rfl⟩) | fail)
  replace VR := VR.kept (belowA (w.alloc (.cells #[.int .i64 0, .int .i64 0, .int .i64 0, .int .i64 0, .int .i64 0, .int .i64 0, .int .i64 0, .int .i64 0, .int .i64 0, .int .i64 0] 56)) (.cells #[.int .i64 0, .int .i64 4294967295] 27))
  replace B := thenB B (belowA (w.alloc (.cells #[.int .i64 0, .int .i64 0, .int .i64 0, .int .i64 0, .int .i64 0, .int .i64 0, .int .i64 0, .int .i64 0, .int .i64 0, .int .i64 0] 56)) (.cells #[.int .i64 0, .int .i64 4294967295] 27))
  have VQ : V ((w.alloc (.cells #[.int .i64 0, .int .i64 0, .int .i64 0, .int .i64 0, .int .i64 0, .int .i64 0, .int .i64 0, .int .i64 0, .int .i64 0, .int .i64 0] 56)).alloc (.cells #[.int .i64 0, .int .i64 4294967295] 27)) (w.heap.size + 1) [.int .i64 0, .int .i64 4294967295] := V.newAt _ _ _ _ (by simp)
  clear s_VR f_VR z_VR
  have K : ∀ w' : World, Below ((w.alloc (.cells #[.int .i64 0, .int .i64 0, .int .i64 0, .int .i64 0, .int .i64 0, .int .i64 0, .int .i64 0, .int .i64 0, .int .i64 0, .int .i64 0] 56)).alloc (.cells #[.int .i64 0, .int .i64 4294967295] 27)).heap.size ((w.alloc (.cells #[.int .i64 0, .int .i64 0, .int .i64 0, .int .i64 0, .int .i64 0, .int .i64 0, .int .i64 0, .int .i64 0, .int .i64 0, .int .i64 0] 56)).alloc (.cells #[.int .i64 0, .int .i64 4294967295] 27)) w' → (w'.cell? ⟨w.heap.size + 1, 0, none⟩ = some (.int .i64 0) ∧ w'.cell? ⟨w.heap.size + 1, 1, none⟩ = some (.int .i64 4294967295)) := fun w' h => ⟨(VQ.kept h).2.1 0 (by simp), (VQ.kept h).2.1 1 (by simp)⟩
  have K := Hid.mk K
  refine wp_region_held_drew (S := (fun w' => w'.cell? ⟨w.heap.size + 1, 0, none⟩ = some (.int .i64 0) ∧ w'.cell? ⟨w.heap.size + 1, 1, none⟩ = some (.int .i64 4294967295))) (by kernel_rfl) (K.out _ (Below.refl _ _).drew) (fun hHeld => ?_)
  refine wpAnyH_take (i := 0) (oi := _) (v := ?vz1u1) rfl (by kernel_rfl) (by kernel_rfl) (by kernel_rfl) (fun _ _ _ h => h) (Or.inl ⟨by rfl, ?hyz1u1⟩) hHeld ?restz1u1
  case hyz1u1 => (intro w hSw; (try dsimp only at hSw); go_simp; first | done | with_reducible rfl)
  try simp only [Act.put, List.getElem_toArray, List.getElem_cons_zero, List.setIfInBounds_toArray, List.set_cons_zero, List.set_cons_succ]
  refine wpAnyH_take (i := 1) (oi := _) (v := ?vz1u2) rfl (by kernel_rfl) (by kernel_rfl) (by kernel_rfl) (fun _ _ _ h => h) (Or.inl ⟨by rfl, ?hyz1u2⟩) hHeld ?restz1u2
  case hyz1u2 => (intro w hSw; (try dsimp only at hSw); go_simp; first | done | with_reducible rfl)
  try simp only [Act.put, List.getElem_toArray, List.getElem_cons_zero, List.getElem_cons_succ, List.setIfInBounds_toArray, List.set_cons_zero, List.set_cons_succ]
  refine wpAnyH_take (i := 4) (oi := _) (v := ?vz1u3) rfl (by kernel_rfl) (by kernel_rfl) (by kernel_rfl) (fun _ _ _ h => h) (Or.inl ⟨by rfl, ?hyz1u3⟩) hHeld ?restz1u3
  case hyz1u3 => (intro w hSw; (try dsimp only at hSw); go_simp; first | done | with_reducible rfl)
  try simp only [Act.put, List.getElem_toArray, List.getElem_cons_zero, List.getElem_cons_succ, List.setIfInBounds_toArray, List.set_cons_zero, List.set_cons_succ]
  refine wpAnyH_ready (rs := [2]) (by kernel_rfl) (by simp) ?_
  refine AllReadyH.cons (o := _) rfl (fun K0 hK0 => ?_) AllReadyH.nil
  go_simp
  go_at_call 52
  refine (l3All_ok _).mono ?_
  rintro e wz1v4 ⟨rfl, bz1v4⟩
  refine hK0.out _ _ (K.out _ (thenB (Below.refl _ _).drew bz1v4)) (fun hHeld => ?_)
  clear hK0 K0
  try simp only [Act.put, List.getElem_toArray, List.getElem_cons_zero, List.getElem_cons_succ, List.setIfInBounds_toArray, List.set_cons_zero, List.set_cons_succ]
  refine wpAnyH_ready (rs := [3]) (by kernel_rfl) (by simp) ?_
  refine AllReadyH.cons (o := _) rfl (fun K0 hK0 => ?_) AllReadyH.nil
  go_simp
  go_at_call 52
  refine (l3All_ok _).mono ?_
  rintro e wz1v5 ⟨rfl, bz1v5⟩
  refine hK0.out _ _ (K.out _ (thenB (thenB (Below.refl _ _).drew bz1v4) bz1v5)) (fun hHeld => ?_)
  clear hK0 K0
  try simp only [Act.put, List.getElem_toArray, List.getElem_cons_zero, List.getElem_cons_succ, List.setIfInBounds_toArray, List.set_cons_zero, List.set_cons_succ]
  refine wpAnyH_take (i := 5) (oi := _) (v := ?vz1u6) rfl (by kernel_rfl) (by kernel_rfl) (by kernel_rfl) (fun _ _ _ h => h) (Or.inl ⟨by rfl, ?hyz1u6⟩) hHeld ?restz1u6
  case hyz1u6 => (intro w hSw; (try dsimp only at hSw); go_simp; first | done | with_reducible rfl)
  try simp only [Act.put, List.getElem_toArray, List.getElem_cons_zero, List.getElem_cons_succ, List.setIfInBounds_toArray, List.set_cons_zero, List.set_cons_succ]
  refine wpAnyH_take (i := 6) (oi := _) (v := ?vz1u7) rfl (by kernel_rfl) (by kernel_rfl) (by kernel_rfl) (fun _ _ _ h => h) (Or.inl ⟨by rfl, ?hyz1u7⟩) hHeld ?restz1u7
  case hyz1u7 => (intro w hSw; (try dsimp only at hSw); go_simp; first | done | with_reducible rfl)
  try simp only [Act.put, List.getElem_toArray, List.getElem_cons_zero, List.getElem_cons_succ, List.setIfInBounds_toArray, List.set_cons_zero, List.set_cons_succ]
  replace VR := VR.kept (thenB (thenB (Below.refl _ _).drew bz1v4) bz1v5)
  obtain ⟨_, fR, zR⟩ := VR.open
  refine wpAnyH_ready (rs := [7]) (by kernel_rfl) (by simp) ?_
  refine AllReadyH.cons (o := _) rfl (fun K0 hK0 => ?_) AllReadyH.nil
  go_simp
  refine hK0.out _ _ (by simpa [go_sem] using hHeld) (fun hHeld => ?_)
  clear hK0 K0
  try simp only [Act.put, List.getElem_toArray, List.getElem_cons_zero, List.getElem_cons_succ, List.setIfInBounds_toArray, List.set_cons_zero, List.set_cons_succ]
  refine wpAnyH_done (by kernel_rfl) ?_ _
  have Bo := thenB B (thenB (thenB (Below.refl _ _).drew bz1v4) bz1v5)
  go_wp2
  refine bodyPost_ret (v := .agg #[.int .i64 0, .int .i64 0, .int .i64 4294967295, .int .i64 0, .int .i64 4294967295, .int .i64 0, .int .i64 65535, .int .i64 0, .int .i64 65535, .int .i64 p]) (by first | (simp [results, Try.results31, go_sem]; done) | simp [results, Try.results31, go_sem, fR]) rfl ⟨rfl, ?_⟩
  repeat' first | with_reducible exact Bo | with_reducible exact Below.refl _ _ | with_reducible refine Below.setCell ?_ ?_ _ | with_reducible refine Below.alloc ?_ ?_ _ | with_reducible refine Below.drew ?_ | (simp; done) | (simp; omega)

set_option maxHeartbeats 2000000 in
theorem xAny_walk (p : Int) (w : World) :
    Calls Try.prog 8 #[.int .i64 p] w fun e w' => e = .returned (.bool true) ∧ Below w.heap.size w w' := by
  cases hb : btw p 0 255
  · have CS := Hid.mk (fun w => specAny0 p w hb)
    have CI := Hid.mk (fun w => implAny0 p w hb)
    go_enter Try.func8, Try.ntmps8
    have B := Below.refl w.heap.size w
    have Bo := B
    go_wp2_with fail
    refine (CS.out _).mono ?_
    rintro e w1 ⟨rfl, b1⟩
    have S1 := b1.size
    replace B := thenB B b1
    clear b1
    have Bo := B
    replace B := thenB B (belowA w1 (.cells #[.int .i64 3, .int .i64 0, .int .i64 0, .int .i64 0, .int .i64 0, .int .i64 0, .int .i64 0, .int .i64 0, .int .i64 0, .int .i64 0] 56))
    have VA := V.new w1 [.int .i64 3, .int .i64 0, .int .i64 0, .int .i64 0, .int .i64 0, .int .i64 0, .int .i64 0, .int .i64 0, .int .i64 0, .int .i64 0] 56
    go_wp2_with fail
    refine (CI.out _).mono ?_
    rintro e w2 ⟨rfl, b2⟩
    have S2 := b2.size
    simp only [World.size_alloc] at S2
    replace VA := VA.kept b2
    replace B := thenB B b2
    clear b2
    obtain ⟨s_VA, f_VA, z_VA⟩ := VA.open
    have Bo := B
    replace VA := VA.kept (belowA w2 (.cells #[.int .i64 3, .int .i64 0, .int .i64 0, .int .i64 0, .int .i64 0, .int .i64 0, .int .i64 0, .int .i64 0, .int .i64 0, .int .i64 0] 56))
    replace B := thenB B (belowA w2 (.cells #[.int .i64 3, .int .i64 0, .int .i64 0, .int .i64 0, .int .i64 0, .int .i64 0, .int .i64 0, .int .i64 0, .int .i64 0, .int .i64 0] 56))
    have VB := V.new w2 [.int .i64 3, .int .i64 0, .int .i64 0, .int .i64 0, .int .i64 0, .int .i64 0, .int .i64 0, .int .i64 0, .int .i64 0, .int .i64 0] 56
    have CE := eqSelResult_ok 3 ⟨0, 0, 0, 0, 0, 0, 0, 0, 0⟩
    dsimp only at CE
    replace CE := Hid.mk CE
    go_wp2_with fail
    refine (CE.out _).mono ?_
    rintro e w3 ⟨rfl, b3⟩
    clear s_VA f_VA z_VA
    have S3 := b3.size
    simp only [World.size_alloc] at S3
    replace VA := VA.kept b3
    replace VB := VB.kept b3
    replace B := thenB B b3
    clear b3
    obtain ⟨s_VA, f_VA, z_VA⟩ := VA.open
    obtain ⟨s_VB, f_VB, z_VB⟩ := VB.open
    have Bo := B
    go_wp2
    go_ret
    exact ⟨rfl, Bo⟩
  · have CS := Hid.mk (fun w => specAny1 p w hb)
    have CI := Hid.mk (fun w => implAny1 p w hb)
    go_enter Try.func8, Try.ntmps8
    have B := Below.refl w.heap.size w
    have Bo := B
    go_wp2_with fail
    refine (CS.out _).mono ?_
    rintro e w1 ⟨rfl, b1⟩
    have S1 := b1.size
    replace B := thenB B b1
    clear b1
    have Bo := B
    replace B := thenB B (belowA w1 (.cells #[.int .i64 0, .int .i64 0, .int .i64 4294967295, .int .i64 0, .int .i64 4294967295, .int .i64 0, .int .i64 65535, .int .i64 0, .int .i64 65535, .int .i64 p] 56))
    have VA := V.new w1 [.int .i64 0, .int .i64 0, .int .i64 4294967295, .int .i64 0, .int .i64 4294967295, .int .i64 0, .int .i64 65535, .int .i64 0, .int .i64 65535, .int .i64 p] 56
    go_wp2_with fail
    refine (CI.out _).mono ?_
    rintro e w2 ⟨rfl, b2⟩
    have S2 := b2.size
    simp only [World.size_alloc] at S2
    replace VA := VA.kept b2
    replace B := thenB B b2
    clear b2
    obtain ⟨s_VA, f_VA, z_VA⟩ := VA.open
    have Bo := B
    replace VA := VA.kept (belowA w2 (.cells #[.int .i64 0, .int .i64 0, .int .i64 4294967295, .int .i64 0, .int .i64 4294967295, .int .i64 0, .int .i64 65535, .int .i64 0, .int .i64 65535, .int .i64 p] 56))
    replace B := thenB B (belowA w2 (.cells #[.int .i64 0, .int .i64 0, .int .i64 4294967295, .int .i64 0, .int .i64 4294967295, .int .i64 0, .int .i64 65535, .int .i64 0, .int .i64 65535, .int .i64 p] 56))
    have VB := V.new w2 [.int .i64 0, .int .i64 0, .int .i64 4294967295, .int .i64 0, .int .i64 4294967295, .int .i64 0, .int .i64 65535, .int .i64 0, .int .i64 65535, .int .i64 p] 56
    have CE := eqSelResult_ok 0 ⟨0, 4294967295, 0, 4294967295, 0, 65535, 0, 65535, p⟩
    dsimp only at CE
    replace CE := Hid.mk CE
    go_wp2_with fail
    refine (CE.out _).mono ?_
    rintro e w3 ⟨rfl, b3⟩
    clear s_VA f_VA z_VA
    have S3 := b3.size
    simp only [World.size_alloc] at S3
    replace VA := VA.kept b3
    replace VB := VB.kept b3
    replace B := thenB B b3
    clear b3
    obtain ⟨s_VA, f_VA, z_VA⟩ := VA.open
    obtain ⟨s_VB, f_VB, z_VB⟩ := VB.open
    have Bo := B
    go_wp2
    go_ret
    exact ⟨rfl, Bo⟩

end Go.Proofs.Ytmbkbbephmblmab
