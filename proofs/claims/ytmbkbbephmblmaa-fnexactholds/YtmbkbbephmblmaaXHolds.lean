/- The law on 'Holds': its walk. -/
import Derived.Test.YtmbkbbephmblmaaSelZ
import Derived.Test.YtmbkbbephmblmaaSelH
import Derived.Test.YtmbkbbephmblmaaPktH
namespace Go.Proofs.Ytmbkbbephmblmaa
open Go.RowKit

set_option maxHeartbeats 4000000 in
theorem xHolds_walk (x : S9) (f t r l u v : Int) (s : Option Addr) (n ca : Nat) (xs : List Int) (w : World) (hR : Rd .u8 w s xs) (hn : xs.length = n) (hx' : n ≤ maxLen) :
    Calls Try.prog 7 #[.agg #[.int .i64 x.a, .int .i64 x.b, .int .i64 x.c, .int .i64 x.d, .int .i64 x.e, .int .i64 x.f, .int .i64 x.g, .int .i64 x.h, .int .i64 x.r], .agg #[.int .i64 f, .int .i64 t, .int .i64 r, .int .i64 l, .int .i64 u, .int .i64 v, .slice s n ca]] w fun e w' => e = .returned (.bool true) ∧ Below w.heap.size w w' := by
  by_cases hbig : (n : Int) ≤ 1048576
  · have hx : n ≤ 281474976710656 := by omega
    have h0 : 0 ≤ 1048576 - (n : Int) := by omega
    have CS := Hid.mk (fun c d w => specHolds_ok x f t r l u v c n d w)
    have CI := Hid.mk (fun c d w => implHolds_ok x f t r l u v c n d w)
    have CP := Hid.mk (fun w h => toPacket_ok f t r l u v s n ca xs w h hn hx)
    have HN := Hid.mk hn
    generalize hoP x f t r l u v n = k at *
    clear hn
    go_enter Try.func7, Try.ntmps7
    have B := Below.refl w.heap.size w
    replace hR := hR.kept (belowA w (.cells #[.int .i64 x.a, .int .i64 x.b, .int .i64 x.c, .int .i64 x.d, .int .i64 x.e, .int .i64 x.f, .int .i64 x.g, .int .i64 x.h, .int .i64 x.r] 57))
    replace B := thenB B (belowA w (.cells #[.int .i64 x.a, .int .i64 x.b, .int .i64 x.c, .int .i64 x.d, .int .i64 x.e, .int .i64 x.f, .int .i64 x.g, .int .i64 x.h, .int .i64 x.r] 57))
    have VX := V.new w [.int .i64 x.a, .int .i64 x.b, .int .i64 x.c, .int .i64 x.d, .int .i64 x.e, .int .i64 x.f, .int .i64 x.g, .int .i64 x.h, .int .i64 x.r] 57
    replace VX := VX.kept (belowA (w.alloc (.cells #[.int .i64 x.a, .int .i64 x.b, .int .i64 x.c, .int .i64 x.d, .int .i64 x.e, .int .i64 x.f, .int .i64 x.g, .int .i64 x.h, .int .i64 x.r] 57)) (.cells #[.int .i64 f, .int .i64 t, .int .i64 r, .int .i64 l, .int .i64 u, .int .i64 v, .slice s n ca] 60))
    replace hR := hR.kept (belowA (w.alloc (.cells #[.int .i64 x.a, .int .i64 x.b, .int .i64 x.c, .int .i64 x.d, .int .i64 x.e, .int .i64 x.f, .int .i64 x.g, .int .i64 x.h, .int .i64 x.r] 57)) (.cells #[.int .i64 f, .int .i64 t, .int .i64 r, .int .i64 l, .int .i64 u, .int .i64 v, .slice s n ca] 60))
    replace B := thenB B (belowA (w.alloc (.cells #[.int .i64 x.a, .int .i64 x.b, .int .i64 x.c, .int .i64 x.d, .int .i64 x.e, .int .i64 x.f, .int .i64 x.g, .int .i64 x.h, .int .i64 x.r] 57)) (.cells #[.int .i64 f, .int .i64 t, .int .i64 r, .int .i64 l, .int .i64 u, .int .i64 v, .slice s n ca] 60))
    have VY : V ((w.alloc (.cells #[.int .i64 x.a, .int .i64 x.b, .int .i64 x.c, .int .i64 x.d, .int .i64 x.e, .int .i64 x.f, .int .i64 x.g, .int .i64 x.h, .int .i64 x.r] 57)).alloc (.cells #[.int .i64 f, .int .i64 t, .int .i64 r, .int .i64 l, .int .i64 u, .int .i64 v, .slice s n ca] 60)) (w.heap.size + 1) [.int .i64 f, .int .i64 t, .int .i64 r, .int .i64 l, .int .i64 u, .int .i64 v, .slice s n ca] := V.newAt _ _ _ _ (by simp)
    obtain ⟨s_VX, f_VX, z_VX⟩ := VX.open
    obtain ⟨s_VY, f_VY, z_VY⟩ := VY.open
    go_wp2_with fail
    refine (szPacket_in f t r l u v s n ca 1048576 _ hbig (by omega)).mono ?_
    rintro e w1 ⟨rfl, b1⟩
    clear s_VX f_VX z_VX s_VY f_VY z_VY
    have S1 := b1.size
    simp only [World.size_alloc] at S1
    replace VX := VX.kept b1
    replace VY := VY.kept b1
    replace hR := hR.kept b1
    replace B := thenB B b1
    clear b1
    obtain ⟨s_VX, f_VX, z_VX⟩ := VX.open
    obtain ⟨s_VY, f_VY, z_VY⟩ := VY.open
    have Bo := B
    clear s_VX f_VX z_VX s_VY f_VY z_VY
    have K : ∀ w' : World, Below w1.heap.size w1 w' → (w'.cell? ⟨w.heap.size, 0, none⟩ = some (.int .i64 x.a) ∧ w'.cell? ⟨w.heap.size, 1, none⟩ = some (.int .i64 x.b) ∧ w'.cell? ⟨w.heap.size, 2, none⟩ = some (.int .i64 x.c) ∧ w'.cell? ⟨w.heap.size, 3, none⟩ = some (.int .i64 x.d) ∧ w'.cell? ⟨w.heap.size, 4, none⟩ = some (.int .i64 x.e) ∧ w'.cell? ⟨w.heap.size, 5, none⟩ = some (.int .i64 x.f) ∧ w'.cell? ⟨w.heap.size, 6, none⟩ = some (.int .i64 x.g) ∧ w'.cell? ⟨w.heap.size, 7, none⟩ = some (.int .i64 x.h) ∧ w'.cell? ⟨w.heap.size, 8, none⟩ = some (.int .i64 x.r) ∧ w'.cell? ⟨w.heap.size + 1, 0, none⟩ = some (.int .i64 f) ∧ w'.cell? ⟨w.heap.size + 1, 1, none⟩ = some (.int .i64 t) ∧ w'.cell? ⟨w.heap.size + 1, 2, none⟩ = some (.int .i64 r) ∧ w'.cell? ⟨w.heap.size + 1, 3, none⟩ = some (.int .i64 l) ∧ w'.cell? ⟨w.heap.size + 1, 4, none⟩ = some (.int .i64 u) ∧ w'.cell? ⟨w.heap.size + 1, 5, none⟩ = some (.int .i64 v) ∧ w'.cell? ⟨w.heap.size + 1, 6, none⟩ = some (.slice s n ca)) := fun w' h => ⟨(VX.kept h).2.1 0 (by simp), (VX.kept h).2.1 1 (by simp), (VX.kept h).2.1 2 (by simp), (VX.kept h).2.1 3 (by simp), (VX.kept h).2.1 4 (by simp), (VX.kept h).2.1 5 (by simp), (VX.kept h).2.1 6 (by simp), (VX.kept h).2.1 7 (by simp), (VX.kept h).2.1 8 (by simp), (VY.kept h).2.1 0 (by simp), (VY.kept h).2.1 1 (by simp), (VY.kept h).2.1 2 (by simp), (VY.kept h).2.1 3 (by simp), (VY.kept h).2.1 4 (by simp), (VY.kept h).2.1 5 (by simp), (VY.kept h).2.1 6 (by simp)⟩
    have K := Hid.mk K
    go_wp2_with fail
    refine wp_region_held_drew (S := (fun w' => w'.cell? ⟨w.heap.size, 0, none⟩ = some (.int .i64 x.a) ∧ w'.cell? ⟨w.heap.size, 1, none⟩ = some (.int .i64 x.b) ∧ w'.cell? ⟨w.heap.size, 2, none⟩ = some (.int .i64 x.c) ∧ w'.cell? ⟨w.heap.size, 3, none⟩ = some (.int .i64 x.d) ∧ w'.cell? ⟨w.heap.size, 4, none⟩ = some (.int .i64 x.e) ∧ w'.cell? ⟨w.heap.size, 5, none⟩ = some (.int .i64 x.f) ∧ w'.cell? ⟨w.heap.size, 6, none⟩ = some (.int .i64 x.g) ∧ w'.cell? ⟨w.heap.size, 7, none⟩ = some (.int .i64 x.h) ∧ w'.cell? ⟨w.heap.size, 8, none⟩ = some (.int .i64 x.r) ∧ w'.cell? ⟨w.heap.size + 1, 0, none⟩ = some (.int .i64 f) ∧ w'.cell? ⟨w.heap.size + 1, 1, none⟩ = some (.int .i64 t) ∧ w'.cell? ⟨w.heap.size + 1, 2, none⟩ = some (.int .i64 r) ∧ w'.cell? ⟨w.heap.size + 1, 3, none⟩ = some (.int .i64 l) ∧ w'.cell? ⟨w.heap.size + 1, 4, none⟩ = some (.int .i64 u) ∧ w'.cell? ⟨w.heap.size + 1, 5, none⟩ = some (.int .i64 v) ∧ w'.cell? ⟨w.heap.size + 1, 6, none⟩ = some (.slice s n ca))) (by kernel_rfl) (K.out _ (Below.refl _ _).drew) (fun hHeld => ?_)
    refine wpAnyH_take (i := 0) (oi := _) (v := ?vz1u1) rfl (by kernel_rfl) (by kernel_rfl) (by kernel_rfl) (fun _ _ _ h => h) (Or.inl ⟨by rfl, ?hyz1u1⟩) hHeld ?restz1u1
    case hyz1u1 => (intro w hSw; (try dsimp only at hSw); go_simp; first | done | with_reducible rfl)
    try simp only [Act.put, List.getElem_toArray, List.getElem_cons_zero, List.setIfInBounds_toArray, List.set_cons_zero, List.set_cons_succ]
    refine wpAnyH_take (i := 2) (oi := _) (v := ?vz1u2) rfl (by kernel_rfl) (by kernel_rfl) (by kernel_rfl) (fun _ _ _ h => h) (Or.inl ⟨by rfl, ?hyz1u2⟩) hHeld ?restz1u2
    case hyz1u2 => (intro w hSw; (try dsimp only at hSw); go_simp; first | done | with_reducible rfl)
    try simp only [Act.put, List.getElem_toArray, List.getElem_cons_zero, List.getElem_cons_succ, List.setIfInBounds_toArray, List.set_cons_zero, List.set_cons_succ]
    refine wpAnyH_ready (rs := [1]) (by kernel_rfl) (by simp) ?_
    refine AllReadyH.cons (o := _) rfl (fun K0 hK0 => ?_) AllReadyH.nil
    go_simp
    go_at_call 28
    refine (toSel_ok x _).mono ?_
    rintro e wz1v3 ⟨rfl, bz1v3⟩
    refine hK0.out _ _ (K.out _ (thenB (Below.refl _ _).drew bz1v3)) (fun hHeld => ?_)
    clear hK0 K0
    try simp only [Act.put, List.getElem_toArray, List.getElem_cons_zero, List.getElem_cons_succ, List.setIfInBounds_toArray, List.set_cons_zero, List.set_cons_succ]
    refine wpAnyH_ready (rs := [3]) (by kernel_rfl) (by simp) ?_
    refine AllReadyH.cons (o := _) rfl (fun K0 hK0 => ?_) AllReadyH.nil
    go_simp
    go_at_call 31
    refine (CP.out _ (hR.kept (thenB (Below.refl _ _).drew bz1v3))).mono ?_
    rintro e wz1v4 ⟨c1, d1, rfl, o1, bz1v4⟩
    refine hK0.out _ _ (K.out _ (thenB (thenB (Below.refl _ _).drew bz1v3) bz1v4)) (fun hHeld => ?_)
    clear hK0 K0
    try simp only [Act.put, List.getElem_toArray, List.getElem_cons_zero, List.getElem_cons_succ, List.setIfInBounds_toArray, List.set_cons_zero, List.set_cons_succ]
    refine wpAnyH_ready (rs := [4]) (by kernel_rfl) (by simp) ?_
    refine AllReadyH.cons (o := _) rfl (fun K0 hK0 => ?_) AllReadyH.nil
    go_simp
    go_at_call 30
    refine (CS.out _ _ _).mono ?_
    rintro e wz1v5 ⟨rfl, bz1v5⟩
    refine hK0.out _ _ (K.out _ (thenB (thenB (thenB (Below.refl _ _).drew bz1v3) bz1v4) bz1v5)) (fun hHeld => ?_)
    clear hK0 K0
    try simp only [Act.put, List.getElem_toArray, List.getElem_cons_zero, List.getElem_cons_succ, List.setIfInBounds_toArray, List.set_cons_zero, List.set_cons_succ]
    refine wpAnyH_take (i := 5) (oi := _) (v := ?vz1u6) rfl (by kernel_rfl) (by kernel_rfl) (by kernel_rfl) (fun _ _ _ h => h) (Or.inl ⟨by rfl, ?hyz1u6⟩) hHeld ?restz1u6
    case hyz1u6 => (intro w hSw; (try dsimp only at hSw); go_simp; first | done | with_reducible rfl)
    try simp only [Act.put, List.getElem_toArray, List.getElem_cons_zero, List.getElem_cons_succ, List.setIfInBounds_toArray, List.set_cons_zero, List.set_cons_succ]
    refine wpAnyH_done (by kernel_rfl) ?_ _
    clear K hHeld
    replace VX := VX.kept (thenB (thenB (thenB (Below.refl _ _).drew bz1v3) bz1v4) bz1v5)
    replace VY := VY.kept (thenB (thenB (thenB (Below.refl _ _).drew bz1v3) bz1v4) bz1v5)
    replace hR := hR.kept (thenB (thenB (thenB (Below.refl _ _).drew bz1v3) bz1v4) bz1v5)
    replace B := thenB B (thenB (thenB (thenB (Below.refl _ _).drew bz1v3) bz1v4) bz1v5)
    replace o1 := o1.kept bz1v5
    have Sz1 := ((thenB (thenB (thenB (Below.refl _ _).drew bz1v3) bz1v4) bz1v5)).size
    clear bz1v3 bz1v4 bz1v5
    obtain ⟨s_VX, f_VX, z_VX⟩ := VX.open
    obtain ⟨s_VY, f_VY, z_VY⟩ := VY.open
    have Bo := B
    go_wp2_with fail
    refine (CP.out _ hR).mono ?_
    rintro e w2 ⟨c2, d2, rfl, o2, b2⟩
    clear s_VX f_VX z_VX s_VY f_VY z_VY
    have S2 := b2.size
    replace VX := VX.kept b2
    replace VY := VY.kept b2
    replace hR := hR.kept b2
    replace o1 := o1.kept b2
    replace B := thenB B b2
    clear b2
    obtain ⟨s_VX, f_VX, z_VX⟩ := VX.open
    obtain ⟨s_VY, f_VY, z_VY⟩ := VY.open
    have Bo := B
    replace VX := VX.kept (belowA w2 (.cells #[.int .i64 f, .int .i64 t, .int .i64 r, .int .i64 l, .int .i64 u, .int .i64 v, .slice c2 n d2] 35))
    replace VY := VY.kept (belowA w2 (.cells #[.int .i64 f, .int .i64 t, .int .i64 r, .int .i64 l, .int .i64 u, .int .i64 v, .slice c2 n d2] 35))
    replace hR := hR.kept (belowA w2 (.cells #[.int .i64 f, .int .i64 t, .int .i64 r, .int .i64 l, .int .i64 u, .int .i64 v, .slice c2 n d2] 35))
    replace o1 := o1.kept (belowA w2 (.cells #[.int .i64 f, .int .i64 t, .int .i64 r, .int .i64 l, .int .i64 u, .int .i64 v, .slice c2 n d2] 35))
    replace o2 := o2.kept (belowA w2 (.cells #[.int .i64 f, .int .i64 t, .int .i64 r, .int .i64 l, .int .i64 u, .int .i64 v, .slice c2 n d2] 35))
    replace B := thenB B (belowA w2 (.cells #[.int .i64 f, .int .i64 t, .int .i64 r, .int .i64 l, .int .i64 u, .int .i64 v, .slice c2 n d2] 35))
    have VZ := V.new w2 [.int .i64 f, .int .i64 t, .int .i64 r, .int .i64 l, .int .i64 u, .int .i64 v, .slice c2 n d2] 35
    clear s_VX f_VX z_VX s_VY f_VY z_VY
    have K : ∀ w' : World, Below (w2.alloc (.cells #[.int .i64 f, .int .i64 t, .int .i64 r, .int .i64 l, .int .i64 u, .int .i64 v, .slice c2 n d2] 35)).heap.size (w2.alloc (.cells #[.int .i64 f, .int .i64 t, .int .i64 r, .int .i64 l, .int .i64 u, .int .i64 v, .slice c2 n d2] 35)) w' → (w'.cell? ⟨w.heap.size, 0, none⟩ = some (.int .i64 x.a) ∧ w'.cell? ⟨w.heap.size, 1, none⟩ = some (.int .i64 x.b) ∧ w'.cell? ⟨w.heap.size, 2, none⟩ = some (.int .i64 x.c) ∧ w'.cell? ⟨w.heap.size, 3, none⟩ = some (.int .i64 x.d) ∧ w'.cell? ⟨w.heap.size, 4, none⟩ = some (.int .i64 x.e) ∧ w'.cell? ⟨w.heap.size, 5, none⟩ = some (.int .i64 x.f) ∧ w'.cell? ⟨w.heap.size, 6, none⟩ = some (.int .i64 x.g) ∧ w'.cell? ⟨w.heap.size, 7, none⟩ = some (.int .i64 x.h) ∧ w'.cell? ⟨w.heap.size, 8, none⟩ = some (.int .i64 x.r) ∧ w'.cell? ⟨w2.heap.size, 0, none⟩ = some (.int .i64 f) ∧ w'.cell? ⟨w2.heap.size, 1, none⟩ = some (.int .i64 t) ∧ w'.cell? ⟨w2.heap.size, 2, none⟩ = some (.int .i64 r) ∧ w'.cell? ⟨w2.heap.size, 3, none⟩ = some (.int .i64 l) ∧ w'.cell? ⟨w2.heap.size, 4, none⟩ = some (.int .i64 u) ∧ w'.cell? ⟨w2.heap.size, 5, none⟩ = some (.int .i64 v) ∧ w'.cell? ⟨w2.heap.size, 6, none⟩ = some (.slice c2 n d2)) := fun w' h => ⟨(VX.kept h).2.1 0 (by simp), (VX.kept h).2.1 1 (by simp), (VX.kept h).2.1 2 (by simp), (VX.kept h).2.1 3 (by simp), (VX.kept h).2.1 4 (by simp), (VX.kept h).2.1 5 (by simp), (VX.kept h).2.1 6 (by simp), (VX.kept h).2.1 7 (by simp), (VX.kept h).2.1 8 (by simp), (VZ.kept h).2.1 0 (by simp), (VZ.kept h).2.1 1 (by simp), (VZ.kept h).2.1 2 (by simp), (VZ.kept h).2.1 3 (by simp), (VZ.kept h).2.1 4 (by simp), (VZ.kept h).2.1 5 (by simp), (VZ.kept h).2.1 6 (by simp)⟩
    have K := Hid.mk K
    go_wp2_with fail
    refine wp_region_held_drew (S := (fun w' => w'.cell? ⟨w.heap.size, 0, none⟩ = some (.int .i64 x.a) ∧ w'.cell? ⟨w.heap.size, 1, none⟩ = some (.int .i64 x.b) ∧ w'.cell? ⟨w.heap.size, 2, none⟩ = some (.int .i64 x.c) ∧ w'.cell? ⟨w.heap.size, 3, none⟩ = some (.int .i64 x.d) ∧ w'.cell? ⟨w.heap.size, 4, none⟩ = some (.int .i64 x.e) ∧ w'.cell? ⟨w.heap.size, 5, none⟩ = some (.int .i64 x.f) ∧ w'.cell? ⟨w.heap.size, 6, none⟩ = some (.int .i64 x.g) ∧ w'.cell? ⟨w.heap.size, 7, none⟩ = some (.int .i64 x.h) ∧ w'.cell? ⟨w.heap.size, 8, none⟩ = some (.int .i64 x.r) ∧ w'.cell? ⟨w2.heap.size, 0, none⟩ = some (.int .i64 f) ∧ w'.cell? ⟨w2.heap.size, 1, none⟩ = some (.int .i64 t) ∧ w'.cell? ⟨w2.heap.size, 2, none⟩ = some (.int .i64 r) ∧ w'.cell? ⟨w2.heap.size, 3, none⟩ = some (.int .i64 l) ∧ w'.cell? ⟨w2.heap.size, 4, none⟩ = some (.int .i64 u) ∧ w'.cell? ⟨w2.heap.size, 5, none⟩ = some (.int .i64 v) ∧ w'.cell? ⟨w2.heap.size, 6, none⟩ = some (.slice c2 n d2))) (by kernel_rfl) (K.out _ (Below.refl _ _).drew) (fun hHeld => ?_)
    refine wpAnyH_take (i := 0) (oi := _) (v := ?vz2u1) rfl (by kernel_rfl) (by kernel_rfl) (by kernel_rfl) (fun _ _ _ h => h) (Or.inl ⟨by rfl, ?hyz2u1⟩) hHeld ?restz2u1
    case hyz2u1 => (intro w hSw; (try dsimp only at hSw); go_simp; first | done | with_reducible rfl)
    try simp only [Act.put, List.getElem_toArray, List.getElem_cons_zero, List.setIfInBounds_toArray, List.set_cons_zero, List.set_cons_succ]
    refine wpAnyH_take (i := 2) (oi := _) (v := ?vz2u2) rfl (by kernel_rfl) (by kernel_rfl) (by kernel_rfl) (fun _ _ _ h => h) (Or.inl ⟨by rfl, ?hyz2u2⟩) hHeld ?restz2u2
    case hyz2u2 => (intro w hSw; (try dsimp only at hSw); go_simp; first | done | with_reducible rfl)
    try simp only [Act.put, List.getElem_toArray, List.getElem_cons_zero, List.getElem_cons_succ, List.setIfInBounds_toArray, List.set_cons_zero, List.set_cons_succ]
    refine wpAnyH_ready (rs := [1]) (by kernel_rfl) (by simp) ?_
    refine AllReadyH.cons (o := _) rfl (fun K0 hK0 => ?_) AllReadyH.nil
    go_simp
    go_at_call 28
    refine (toSel_ok x _).mono ?_
    rintro e wz2v3 ⟨rfl, bz2v3⟩
    refine hK0.out _ _ (K.out _ (thenB (Below.refl _ _).drew bz2v3)) (fun hHeld => ?_)
    clear hK0 K0
    try simp only [Act.put, List.getElem_toArray, List.getElem_cons_zero, List.getElem_cons_succ, List.setIfInBounds_toArray, List.set_cons_zero, List.set_cons_succ]
    refine wpAnyH_ready (rs := [3]) (by kernel_rfl) (by simp) ?_
    refine AllReadyH.cons (o := _) rfl (fun K0 hK0 => ?_) AllReadyH.nil
    go_simp
    go_at_call 17
    refine (CI.out _ _ _).mono ?_
    rintro e wz2v4 ⟨rfl, bz2v4⟩
    refine hK0.out _ _ (K.out _ (thenB (thenB (Below.refl _ _).drew bz2v3) bz2v4)) (fun hHeld => ?_)
    clear hK0 K0
    try simp only [Act.put, List.getElem_toArray, List.getElem_cons_zero, List.getElem_cons_succ, List.setIfInBounds_toArray, List.set_cons_zero, List.set_cons_succ]
    refine wpAnyH_take (i := 4) (oi := _) (v := ?vz2u5) rfl (by kernel_rfl) (by kernel_rfl) (by kernel_rfl) (fun _ _ _ h => h) (Or.inl ⟨by rfl, ?hyz2u5⟩) hHeld ?restz2u5
    case hyz2u5 => (intro w hSw; (try dsimp only at hSw); go_simp; first | done | with_reducible rfl)
    try simp only [Act.put, List.getElem_toArray, List.getElem_cons_zero, List.getElem_cons_succ, List.setIfInBounds_toArray, List.set_cons_zero, List.set_cons_succ]
    refine wpAnyH_done (by kernel_rfl) ?_ _
    clear K hHeld
    replace VX := VX.kept (thenB (thenB (Below.refl _ _).drew bz2v3) bz2v4)
    replace VY := VY.kept (thenB (thenB (Below.refl _ _).drew bz2v3) bz2v4)
    replace VZ := VZ.kept (thenB (thenB (Below.refl _ _).drew bz2v3) bz2v4)
    replace hR := hR.kept (thenB (thenB (Below.refl _ _).drew bz2v3) bz2v4)
    replace o1 := o1.kept (thenB (thenB (Below.refl _ _).drew bz2v3) bz2v4)
    replace o2 := o2.kept (thenB (thenB (Below.refl _ _).drew bz2v3) bz2v4)
    replace B := thenB B (thenB (thenB (Below.refl _ _).drew bz2v3) bz2v4)
    have Sz2 := ((thenB (thenB (Below.refl _ _).drew bz2v3) bz2v4)).size
    simp only [World.size_alloc] at Sz2
    clear bz2v3 bz2v4
    obtain ⟨s_VX, f_VX, z_VX⟩ := VX.open
    obtain ⟨s_VY, f_VY, z_VY⟩ := VY.open
    obtain ⟨s_VZ, f_VZ, z_VZ⟩ := VZ.open
    have Bo := B
    have hk : (k != k) = false := by simp
    clear s_VX f_VX z_VX s_VY f_VY z_VY s_VZ f_VZ z_VZ
    have K : ∀ w' : World, Below wz2v4.heap.size wz2v4 w' → (w'.cell? ⟨w2.heap.size, 0, none⟩ = some (.int .i64 f) ∧ w'.cell? ⟨w2.heap.size, 1, none⟩ = some (.int .i64 t) ∧ w'.cell? ⟨w2.heap.size, 2, none⟩ = some (.int .i64 r) ∧ w'.cell? ⟨w2.heap.size, 3, none⟩ = some (.int .i64 l) ∧ w'.cell? ⟨w2.heap.size, 4, none⟩ = some (.int .i64 u) ∧ w'.cell? ⟨w2.heap.size, 5, none⟩ = some (.int .i64 v) ∧ w'.cell? ⟨w2.heap.size, 6, none⟩ = some (.slice c2 n d2) ∧ w'.cell? ⟨w.heap.size + 1, 0, none⟩ = some (.int .i64 f) ∧ w'.cell? ⟨w.heap.size + 1, 1, none⟩ = some (.int .i64 t) ∧ w'.cell? ⟨w.heap.size + 1, 2, none⟩ = some (.int .i64 r) ∧ w'.cell? ⟨w.heap.size + 1, 3, none⟩ = some (.int .i64 l) ∧ w'.cell? ⟨w.heap.size + 1, 4, none⟩ = some (.int .i64 u) ∧ w'.cell? ⟨w.heap.size + 1, 5, none⟩ = some (.int .i64 v) ∧ w'.cell? ⟨w.heap.size + 1, 6, none⟩ = some (.slice s n ca)) := fun w' h => ⟨(VZ.kept h).2.1 0 (by simp), (VZ.kept h).2.1 1 (by simp), (VZ.kept h).2.1 2 (by simp), (VZ.kept h).2.1 3 (by simp), (VZ.kept h).2.1 4 (by simp), (VZ.kept h).2.1 5 (by simp), (VZ.kept h).2.1 6 (by simp), (VY.kept h).2.1 0 (by simp), (VY.kept h).2.1 1 (by simp), (VY.kept h).2.1 2 (by simp), (VY.kept h).2.1 3 (by simp), (VY.kept h).2.1 4 (by simp), (VY.kept h).2.1 5 (by simp), (VY.kept h).2.1 6 (by simp)⟩
    have K := Hid.mk K
    go_wp2_with fail
    refine wp_region_held_drew (S := (fun w' => w'.cell? ⟨w2.heap.size, 0, none⟩ = some (.int .i64 f) ∧ w'.cell? ⟨w2.heap.size, 1, none⟩ = some (.int .i64 t) ∧ w'.cell? ⟨w2.heap.size, 2, none⟩ = some (.int .i64 r) ∧ w'.cell? ⟨w2.heap.size, 3, none⟩ = some (.int .i64 l) ∧ w'.cell? ⟨w2.heap.size, 4, none⟩ = some (.int .i64 u) ∧ w'.cell? ⟨w2.heap.size, 5, none⟩ = some (.int .i64 v) ∧ w'.cell? ⟨w2.heap.size, 6, none⟩ = some (.slice c2 n d2) ∧ w'.cell? ⟨w.heap.size + 1, 0, none⟩ = some (.int .i64 f) ∧ w'.cell? ⟨w.heap.size + 1, 1, none⟩ = some (.int .i64 t) ∧ w'.cell? ⟨w.heap.size + 1, 2, none⟩ = some (.int .i64 r) ∧ w'.cell? ⟨w.heap.size + 1, 3, none⟩ = some (.int .i64 l) ∧ w'.cell? ⟨w.heap.size + 1, 4, none⟩ = some (.int .i64 u) ∧ w'.cell? ⟨w.heap.size + 1, 5, none⟩ = some (.int .i64 v) ∧ w'.cell? ⟨w.heap.size + 1, 6, none⟩ = some (.slice s n ca))) (by kernel_rfl) (K.out _ (Below.refl _ _).drew) (fun hHeld => ?_)
    refine wpAnyH_take (i := 0) (oi := _) (v := ?vz3u1) rfl (by kernel_rfl) (by kernel_rfl) (by kernel_rfl) (fun _ _ _ h => h) (Or.inl ⟨by rfl, ?hyz3u1⟩) hHeld ?restz3u1
    case hyz3u1 => (intro w hSw; (try dsimp only at hSw); go_simp; first | done | with_reducible rfl)
    try simp only [Act.put, List.getElem_toArray, List.getElem_cons_zero, List.setIfInBounds_toArray, List.set_cons_zero, List.set_cons_succ]
    refine wpAnyH_take (i := 1) (oi := _) (v := ?vz3u2) rfl (by kernel_rfl) (by kernel_rfl) (by kernel_rfl) (fun _ _ _ h => h) (Or.inl ⟨by rfl, ?hyz3u2⟩) hHeld ?restz3u2
    case hyz3u2 => (intro w hSw; (try dsimp only at hSw); go_simp; first | done | with_reducible rfl)
    try simp only [Act.put, List.getElem_toArray, List.getElem_cons_zero, List.getElem_cons_succ, List.setIfInBounds_toArray, List.set_cons_zero, List.set_cons_succ]
    refine wpAnyH_ready (rs := [2]) (by kernel_rfl) (by simp) ?_
    refine AllReadyH.cons (o := _) rfl (fun K0 hK0 => ?_) AllReadyH.nil
    go_simp
    go_at_call 31
    refine (CP.out _ (hR.kept (Below.refl _ _).drew)).mono ?_
    rintro e wz3v3 ⟨c3, d3, rfl, o3, bz3v3⟩
    refine hK0.out _ _ (K.out _ (thenB (Below.refl _ _).drew bz3v3)) (fun hHeld => ?_)
    clear hK0 K0
    try simp only [Act.put, List.getElem_toArray, List.getElem_cons_zero, List.getElem_cons_succ, List.setIfInBounds_toArray, List.set_cons_zero, List.set_cons_succ]
    refine wpAnyH_ready (rs := [3]) (by kernel_rfl) (by simp) ?_
    refine AllReadyH.cons (o := _) rfl (fun K0 hK0 => ?_) AllReadyH.nil
    go_simp
    go_at_call 32
    refine (eqPacket_ok f t r l u v c2 c3 n d2 d3 xs _ (o2.kept (thenB (Below.refl _ _).drew bz3v3)).rd o3.rd HN.out hx').mono ?_
    rintro e wz3v4 ⟨rfl, bz3v4⟩
    refine hK0.out _ _ (K.out _ (thenB (thenB (Below.refl _ _).drew bz3v3) bz3v4)) (fun hHeld => ?_)
    clear hK0 K0
    try simp only [Act.put, List.getElem_toArray, List.getElem_cons_zero, List.getElem_cons_succ, List.setIfInBounds_toArray, List.set_cons_zero, List.set_cons_succ]
    refine wpAnyH_take (i := 4) (oi := _) (v := ?vz3u5) rfl (by kernel_rfl) (by kernel_rfl) (by kernel_rfl) (fun _ _ _ h => h) (Or.inl ⟨by rfl, ?hyz3u5⟩) hHeld ?restz3u5
    case hyz3u5 => (intro w hSw; (try dsimp only at hSw); go_simp; first | done | with_reducible rfl)
    try simp only [Act.put, List.getElem_toArray, List.getElem_cons_zero, List.getElem_cons_succ, List.setIfInBounds_toArray, List.set_cons_zero, List.set_cons_succ]
    refine wpAnyH_done (by kernel_rfl) ?_ _
    clear K hHeld
    replace VX := VX.kept (thenB (thenB (Below.refl _ _).drew bz3v3) bz3v4)
    replace VY := VY.kept (thenB (thenB (Below.refl _ _).drew bz3v3) bz3v4)
    replace VZ := VZ.kept (thenB (thenB (Below.refl _ _).drew bz3v3) bz3v4)
    replace hR := hR.kept (thenB (thenB (Below.refl _ _).drew bz3v3) bz3v4)
    replace o1 := o1.kept (thenB (thenB (Below.refl _ _).drew bz3v3) bz3v4)
    replace o2 := o2.kept (thenB (thenB (Below.refl _ _).drew bz3v3) bz3v4)
    replace B := thenB B (thenB (thenB (Below.refl _ _).drew bz3v3) bz3v4)
    replace o3 := o3.kept bz3v4
    have Sz3 := ((thenB (thenB (Below.refl _ _).drew bz3v3) bz3v4)).size
    clear bz3v3 bz3v4
    obtain ⟨s_VX, f_VX, z_VX⟩ := VX.open
    obtain ⟨s_VY, f_VY, z_VY⟩ := VY.open
    obtain ⟨s_VZ, f_VZ, z_VZ⟩ := VZ.open
    have Bo := B
    go_wp2
    go_ret
    exact ⟨rfl, Bo⟩
  · have hlt : 1048576 < (n : Int) := by omega
    have VY : V ((w.alloc (.cells #[.int .i64 x.a, .int .i64 x.b, .int .i64 x.c, .int .i64 x.d, .int .i64 x.e, .int .i64 x.f, .int .i64 x.g, .int .i64 x.h, .int .i64 x.r] 57)).alloc (.cells #[.int .i64 f, .int .i64 t, .int .i64 r, .int .i64 l, .int .i64 u, .int .i64 v, .slice s n ca] 60)) (w.heap.size + 1) [.int .i64 f, .int .i64 t, .int .i64 r, .int .i64 l, .int .i64 u, .int .i64 v, .slice s n ca] := V.newAt _ _ _ _ (by simp)
    obtain ⟨_, fY, zY⟩ := VY.open
    go_enter Try.func7, Try.ntmps7
    go_wp2_with fail
    refine (szPacket_out f t r l u v s n ca 1048576 _ hlt (by omega) (by omega) hx').mono ?_
    rintro e w1 ⟨rfl, b1⟩
    go_wp2
    go_ret
    exact ⟨rfl, thenB (belowA2 w _ _) b1⟩

end Go.Proofs.Ytmbkbbephmblmaa
