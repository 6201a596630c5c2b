/- The law on 'HoldsAny': its walk. -/
import Derived.Test.YtmbkbbephmblmabSelP
import Derived.Test.YtmbkbbephmblmabPktH
namespace Go.Proofs.Ytmbkbbephmblmab
open Go.RowKit

set_option maxRecDepth 20000 in
set_option maxHeartbeats 4000000 in
theorem xHAny_walk (a : Option Addr) (n ca : Nat) (xs : List S9) (f t r l u v : Int) (s : Option Addr) (m cs : Nat) (ys : List Int) (w : World) (hR : RdL w a xs) (hn : xs.length = n) (hx' : n ≤ maxLen) (hS : Rd .u8 w s ys) (hm : ys.length = m) (hy' : m ≤ maxLen) :
    Calls Try.prog 5 #[.slice a n ca, .agg #[.int .i64 f, .int .i64 t, .int .i64 r, .int .i64 l, .int .i64 u, .int .i64 v, .slice s m cs]] w fun e w' => e = .returned (.bool true) ∧ Below w.heap.size w w' := by
  by_cases hbig : (n : Int) ≤ 1048576
  · have h0 : 0 ≤ 1048576 - (n : Int) := by omega
    by_cases hbig2 : (m : Int) ≤ 1048576 - (n : Int)
    · have h1 : 0 ≤ 1048576 - (n : Int) - (m : Int) := by omega
      have CT := Hid.mk (fun w h => toSelS_ok a n ca xs w h hn (by omega))
      have CP := Hid.mk (fun w h => toPacket_ok f t r l u v s m cs ys w h hm (by omega))
      have CS := Hid.mk (fun c d s cs w h => specHoldsAny_ok c n d xs f t r l u v s m cs w h hn hx')
      have CI := Hid.mk (fun c d s cs w h => implHoldsAny_ok c n d xs f t r l u v s m cs w h hn hx')
      have CE := Hid.mk (fun c c' d d' w h h' => eqSelS_ok c c' n d d' xs w h h' hn hx')
      have CQ := Hid.mk (fun c c' d d' w h h' => eqPacket_ok f t r l u v c c' m d d' ys w h h' hm hy')
      have HB2 := Hid.mk hbig2
      generalize haP xs f t r l u v m = k at *
      have hk : (k != k) = false := by simp
      clear hbig2 hn hm
      go_enter Try.func5, Try.ntmps5
      have B := Below.refl w.heap.size w
      replace hR := hR.kept (belowA w (.cells #[.int .i64 f, .int .i64 t, .int .i64 r, .int .i64 l, .int .i64 u, .int .i64 v, .slice s m cs] 41))
      replace hS := hS.kept (belowA w (.cells #[.int .i64 f, .int .i64 t, .int .i64 r, .int .i64 l, .int .i64 u, .int .i64 v, .slice s m cs] 41))
      replace B := thenB B (belowA w (.cells #[.int .i64 f, .int .i64 t, .int .i64 r, .int .i64 l, .int .i64 u, .int .i64 v, .slice s m cs] 41))
      have VP := V.new w [.int .i64 f, .int .i64 t, .int .i64 r, .int .i64 l, .int .i64 u, .int .i64 v, .slice s m cs] 41
      obtain ⟨s_VP, f_VP, z_VP⟩ := VP.open
      go_wp2_with fail
      refine (szSelS_in a n ca 1048576 _ hbig (by omega)).mono ?_
      rintro e wq ⟨rfl, rfl⟩
      go_wp2_with fail
      refine (szPacket_in f t r l u v s m cs (1048576 - (n : Int)) _ HB2.out (by omega)).mono ?_
      rintro e w1 ⟨rfl, b1⟩
      clear s_VP f_VP z_VP
      have S1 := b1.size
      simp only [World.size_alloc] at S1
      replace VP := VP.kept b1
      replace hR := hR.kept b1
      replace hS := hS.kept b1
      replace B := thenB B b1
      clear b1
      obtain ⟨s_VP, f_VP, z_VP⟩ := VP.open
      have Bo := B
      clear s_VP f_VP z_VP
      have K : ∀ w' : World, Below w1.heap.size w1 w' → (w'.cell? ⟨w.heap.size, 0, none⟩ = some (.int .i64 f) ∧ w'.cell? ⟨w.heap.size, 1, none⟩ = some (.int .i64 t) ∧ w'.cell? ⟨w.heap.size, 2, none⟩ = some (.int .i64 r) ∧ w'.cell? ⟨w.heap.size, 3, none⟩ = some (.int .i64 l) ∧ w'.cell? ⟨w.heap.size, 4, none⟩ = some (.int .i64 u) ∧ w'.cell? ⟨w.heap.size, 5, none⟩ = some (.int .i64 v) ∧ w'.cell? ⟨w.heap.size, 6, none⟩ = some (.slice s m cs)) := fun w' h => ⟨(VP.kept h).2.1 0 (by simp), (VP.kept h).2.1 1 (by simp), (VP.kept h).2.1 2 (by simp), (VP.kept h).2.1 3 (by simp), (VP.kept h).2.1 4 (by simp), (VP.kept h).2.1 5 (by simp), (VP.kept h).2.1 6 (by simp)⟩
      have K := Hid.mk K
      go_wp2_with fail
      refine wp_region_held_drew (S := (fun w' => w'.cell? ⟨w.heap.size, 0, none⟩ = some (.int .i64 f) ∧ w'.cell? ⟨w.heap.size, 1, none⟩ = some (.int .i64 t) ∧ w'.cell? ⟨w.heap.size, 2, none⟩ = some (.int .i64 r) ∧ w'.cell? ⟨w.heap.size, 3, none⟩ = some (.int .i64 l) ∧ w'.cell? ⟨w.heap.size, 4, none⟩ = some (.int .i64 u) ∧ w'.cell? ⟨w.heap.size, 5, none⟩ = some (.int .i64 v) ∧ w'.cell? ⟨w.heap.size, 6, none⟩ = some (.slice s m cs))) (by kernel_rfl) (K.out _ (Below.refl _ _).drew) (fun hHeld => ?_)
      refine wpAnyH_take (i := 0) (oi := _) (v := ?vz1u1) rfl (by kernel_rfl) (by kernel_rfl) (by kernel_rfl) (fun _ _ _ h => h) (Or.inl ⟨by rfl, ?hyz1u1⟩) hHeld ?restz1u1
      case hyz1u1 => (intro w hSw; (try dsimp only at hSw); go_simp; first | done | with_reducible rfl)
      try simp only [Act.put, List.getElem_toArray, List.getElem_cons_zero, List.setIfInBounds_toArray, List.set_cons_zero, List.set_cons_succ]
      refine wpAnyH_take (i := 2) (oi := _) (v := ?vz1u2) rfl (by kernel_rfl) (by kernel_rfl) (by kernel_rfl) (fun _ _ _ h => h) (Or.inl ⟨by rfl, ?hyz1u2⟩) hHeld ?restz1u2
      case hyz1u2 => (intro w hSw; (try dsimp only at hSw); go_simp; first | done | with_reducible rfl)
      try simp only [Act.put, List.getElem_toArray, List.getElem_cons_zero, List.getElem_cons_succ, List.setIfInBounds_toArray, List.set_cons_zero, List.set_cons_succ]
      refine wpAnyH_ready (rs := [1]) (by kernel_rfl) (by simp) ?_
      refine AllReadyH.cons (o := _) rfl (fun K0 hK0 => ?_) AllReadyH.nil
      go_simp
      go_at_call 14
      refine (CT.out _ (hR.kept (Below.refl _ _).drew)).mono ?_
      rintro e wz1v3 ⟨rfl, o1, bz1v3⟩
      refine hK0.out _ _ (K.out _ (thenB (Below.refl _ _).drew bz1v3)) (fun hHeld => ?_)
      clear hK0 K0
      try simp only [Act.put, List.getElem_toArray, List.getElem_cons_zero, List.getElem_cons_succ, List.setIfInBounds_toArray, List.set_cons_zero, List.set_cons_succ]
      refine wpAnyH_ready (rs := [3]) (by kernel_rfl) (by simp) ?_
      refine AllReadyH.cons (o := _) rfl (fun K0 hK0 => ?_) AllReadyH.nil
      go_simp
      go_at_call 19
      refine (CP.out _ (hS.kept (thenB (Below.refl _ _).drew bz1v3))).mono ?_
      rintro e wz1v4 ⟨c1, d1, rfl, o2, bz1v4⟩
      refine hK0.out _ _ (K.out _ (thenB (thenB (Below.refl _ _).drew bz1v3) bz1v4)) (fun hHeld => ?_)
      clear hK0 K0
      try simp only [Act.put, List.getElem_toArray, List.getElem_cons_zero, List.getElem_cons_succ, List.setIfInBounds_toArray, List.set_cons_zero, List.set_cons_succ]
      refine wpAnyH_ready (rs := [4]) (by kernel_rfl) (by simp) ?_
      refine AllReadyH.cons (o := _) rfl (fun K0 hK0 => ?_) AllReadyH.nil
      go_simp
      go_at_call 18
      refine (CS.out _ _ _ _ _ (o1.kept bz1v4).rd).mono ?_
      rintro e wz1v5 ⟨rfl, bz1v5⟩
      refine hK0.out _ _ (K.out _ (thenB (thenB (thenB (Below.refl _ _).drew bz1v3) bz1v4) bz1v5)) (fun hHeld => ?_)
      clear hK0 K0
      try simp only [Act.put, List.getElem_toArray, List.getElem_cons_zero, List.getElem_cons_succ, List.setIfInBounds_toArray, List.set_cons_zero, List.set_cons_succ]
      refine wpAnyH_take (i := 5) (oi := _) (v := ?vz1u6) rfl (by kernel_rfl) (by kernel_rfl) (by kernel_rfl) (fun _ _ _ h => h) (Or.inl ⟨by rfl, ?hyz1u6⟩) hHeld ?restz1u6
      case hyz1u6 => (intro w hSw; (try dsimp only at hSw); go_simp; first | done | with_reducible rfl)
      try simp only [Act.put, List.getElem_toArray, List.getElem_cons_zero, List.getElem_cons_succ, List.setIfInBounds_toArray, List.set_cons_zero, List.set_cons_succ]
      refine wpAnyH_done (by kernel_rfl) ?_ _
      clear K hHeld
      replace VP := VP.kept (thenB (thenB (thenB (Below.refl _ _).drew bz1v3) bz1v4) bz1v5)
      replace hR := hR.kept (thenB (thenB (thenB (Below.refl _ _).drew bz1v3) bz1v4) bz1v5)
      replace hS := hS.kept (thenB (thenB (thenB (Below.refl _ _).drew bz1v3) bz1v4) bz1v5)
      replace B := thenB B (thenB (thenB (thenB (Below.refl _ _).drew bz1v3) bz1v4) bz1v5)
      replace o1 := o1.kept bz1v4
      replace o1 := o1.kept bz1v5
      replace o2 := o2.kept bz1v5
      have Sz1 := ((thenB (thenB (thenB (Below.refl _ _).drew bz1v3) bz1v4) bz1v5)).size
      clear bz1v3 bz1v4 bz1v5
      obtain ⟨s_VP, f_VP, z_VP⟩ := VP.open
      have Bo := B
      go_wp2_with fail
      refine (CT.out _ hR).mono ?_
      rintro e w2 ⟨rfl, o3, b2⟩
      clear s_VP f_VP z_VP
      have S2 := b2.size
      replace VP := VP.kept b2
      replace hR := hR.kept b2
      replace hS := hS.kept b2
      replace o1 := o1.kept b2
      replace o2 := o2.kept b2
      replace B := thenB B b2
      clear b2
      obtain ⟨s_VP, f_VP, z_VP⟩ := VP.open
      have Bo := B
      go_wp2_with fail
      refine (CP.out _ hS).mono ?_
      rintro e w3 ⟨c2, d2, rfl, o4, b3⟩
      clear s_VP f_VP z_VP
      have S3 := b3.size
      replace VP := VP.kept b3
      replace hR := hR.kept b3
      replace hS := hS.kept b3
      replace o1 := o1.kept b3
      replace o2 := o2.kept b3
      replace o3 := o3.kept b3
      replace B := thenB B b3
      clear b3
      obtain ⟨s_VP, f_VP, z_VP⟩ := VP.open
      have Bo := B
      replace VP := VP.kept (belowA w3 (.cells #[.int .i64 f, .int .i64 t, .int .i64 r, .int .i64 l, .int .i64 u, .int .i64 v, .slice c2 m d2] 44))
      replace hR := hR.kept (belowA w3 (.cells #[.int .i64 f, .int .i64 t, .int .i64 r, .int .i64 l, .int .i64 u, .int .i64 v, .slice c2 m d2] 44))
      replace hS := hS.kept (belowA w3 (.cells #[.int .i64 f, .int .i64 t, .int .i64 r, .int .i64 l, .int .i64 u, .int .i64 v, .slice c2 m d2] 44))
      replace o1 := o1.kept (belowA w3 (.cells #[.int .i64 f, .int .i64 t, .int .i64 r, .int .i64 l, .int .i64 u, .int .i64 v, .slice c2 m d2] 44))
      replace o2 := o2.kept (belowA w3 (.cells #[.int .i64 f, .int .i64 t, .int .i64 r, .int .i64 l, .int .i64 u, .int .i64 v, .slice c2 m d2] 44))
      replace o3 := o3.kept (belowA w3 (.cells #[.int .i64 f, .int .i64 t, .int .i64 r, .int .i64 l, .int .i64 u, .int .i64 v, .slice c2 m d2] 44))
      replace o4 := o4.kept (belowA w3 (.cells #[.int .i64 f, .int .i64 t, .int .i64 r, .int .i64 l, .int .i64 u, .int .i64 v, .slice c2 m d2] 44))
      replace B := thenB B (belowA w3 (.cells #[.int .i64 f, .int .i64 t, .int .i64 r, .int .i64 l, .int .i64 u, .int .i64 v, .slice c2 m d2] 44))
      have VZ := V.new w3 [.int .i64 f, .int .i64 t, .int .i64 r, .int .i64 l, .int .i64 u, .int .i64 v, .slice c2 m d2] 44
      go_wp2_with fail
      refine (CI.out _ _ _ _ _ o3.rd).mono ?_
      rintro e w4 ⟨rfl, b4⟩
      clear s_VP f_VP z_VP
      have S4 := b4.size
      simp only [World.size_alloc] at S4
      replace VP := VP.kept b4
      replace VZ := VZ.kept b4
      replace hR := hR.kept b4
      replace hS := hS.kept b4
      replace o1 := o1.kept b4
      replace o2 := o2.kept b4
      replace o3 := o3.kept b4
      replace o4 := o4.kept b4
      replace B := thenB B b4
      clear b4
      obtain ⟨s_VP, f_VP, z_VP⟩ := VP.open
      obtain ⟨s_VZ, f_VZ, z_VZ⟩ := VZ.open
      have Bo := B
      go_wp2_with fail
      refine (CT.out _ hR).mono ?_
      rintro e w5 ⟨rfl, o5, b5⟩
      clear s_VP f_VP z_VP s_VZ f_VZ z_VZ
      have S5 := b5.size
      replace VP := VP.kept b5
      replace VZ := VZ.kept b5
      replace hR := hR.kept b5
      replace hS := hS.kept b5
      replace o1 := o1.kept b5
      replace o2 := o2.kept b5
      replace o3 := o3.kept b5
      replace o4 := o4.kept b5
      replace B := thenB B b5
      clear b5
      obtain ⟨s_VP, f_VP, z_VP⟩ := VP.open
      obtain ⟨s_VZ, f_VZ, z_VZ⟩ := VZ.open
      have Bo := B
      go_wp2_with fail
      refine (CE.out _ _ _ _ _ o3.rd o5.rd).mono ?_
      rintro e w6 ⟨rfl, b6⟩
      clear s_VP f_VP z_VP s_VZ f_VZ z_VZ
      have S6 := b6.size
      replace VP := VP.kept b6
      replace VZ := VZ.kept b6
      replace hR := hR.kept b6
      replace hS := hS.kept b6
      replace o1 := o1.kept b6
      replace o2 := o2.kept b6
      replace o3 := o3.kept b6
      replace o4 := o4.kept b6
      replace o5 := o5.kept b6
      replace B := thenB B b6
      clear b6
      obtain ⟨s_VP, f_VP, z_VP⟩ := VP.open
      obtain ⟨s_VZ, f_VZ, z_VZ⟩ := VZ.open
      have Bo := B
      clear s_VP f_VP z_VP s_VZ f_VZ z_VZ
      have K : ∀ w' : World, Below w6.heap.size w6 w' → (w'.cell? ⟨w3.heap.size, 0, none⟩ = some (.int .i64 f) ∧ w'.cell? ⟨w3.heap.size, 1, none⟩ = some (.int .i64 t) ∧ w'.cell? ⟨w3.heap.size, 2, none⟩ = some (.int .i64 r) ∧ w'.cell? ⟨w3.heap.size, 3, none⟩ = some (.int .i64 l) ∧ w'.cell? ⟨w3.heap.size, 4, none⟩ = some (.int .i64 u) ∧ w'.cell? ⟨w3.heap.size, 5, none⟩ = some (.int .i64 v) ∧ w'.cell? ⟨w3.heap.size, 6, none⟩ = some (.slice c2 m d2) ∧ w'.cell? ⟨w.heap.size, 0, none⟩ = some (.int .i64 f) ∧ w'.cell? ⟨w.heap.size, 1, none⟩ = some (.int .i64 t) ∧ w'.cell? ⟨w.heap.size, 2, none⟩ = some (.int .i64 r) ∧ w'.cell? ⟨w.heap.size, 3, none⟩ = some (.int .i64 l) ∧ w'.cell? ⟨w.heap.size, 4, none⟩ = some (.int .i64 u) ∧ w'.cell? ⟨w.heap.size, 5, none⟩ = some (.int .i64 v) ∧ w'.cell? ⟨w.heap.size, 6, none⟩ = some (.slice s m cs)) := fun w' h => ⟨(VZ.kept h).2.1 0 (by simp), (VZ.kept h).2.1 1 (by simp), (VZ.kept h).2.1 2 (by simp), (VZ.kept h).2.1 3 (by simp), (VZ.kept h).2.1 4 (by simp), (VZ.kept h).2.1 5 (by simp), (VZ.kept h).2.1 6 (by simp), (VP.kept h).2.1 0 (by simp), (VP.kept h).2.1 1 (by simp), (VP.kept h).2.1 2 (by simp), (VP.kept h).2.1 3 (by simp), (VP.kept h).2.1 4 (by simp), (VP.kept h).2.1 5 (by simp), (VP.kept h).2.1 6 (by simp)⟩
      have K := Hid.mk K
      go_wp2_with fail
      refine wp_region_held_drew (S := (fun w' => w'.cell? ⟨w3.heap.size, 0, none⟩ = some (.int .i64 f) ∧ w'.cell? ⟨w3.heap.size, 1, none⟩ = some (.int .i64 t) ∧ w'.cell? ⟨w3.heap.size, 2, none⟩ = some (.int .i64 r) ∧ w'.cell? ⟨w3.heap.size, 3, none⟩ = some (.int .i64 l) ∧ w'.cell? ⟨w3.heap.size, 4, none⟩ = some (.int .i64 u) ∧ w'.cell? ⟨w3.heap.size, 5, none⟩ = some (.int .i64 v) ∧ w'.cell? ⟨w3.heap.size, 6, none⟩ = some (.slice c2 m d2) ∧ w'.cell? ⟨w.heap.size, 0, none⟩ = some (.int .i64 f) ∧ w'.cell? ⟨w.heap.size, 1, none⟩ = some (.int .i64 t) ∧ w'.cell? ⟨w.heap.size, 2, none⟩ = some (.int .i64 r) ∧ w'.cell? ⟨w.heap.size, 3, none⟩ = some (.int .i64 l) ∧ w'.cell? ⟨w.heap.size, 4, none⟩ = some (.int .i64 u) ∧ w'.cell? ⟨w.heap.size, 5, none⟩ = some (.int .i64 v) ∧ w'.cell? ⟨w.heap.size, 6, none⟩ = some (.slice s m cs))) (by kernel_rfl) (K.out _ (Below.refl _ _).drew) (fun hHeld => ?_)
      refine wpAnyH_take (i := 0) (oi := _) (v := ?vz2u1) rfl (by kernel_rfl) (by kernel_rfl) (by kernel_rfl) (fun _ _ _ h => h) (Or.inl ⟨by rfl, ?hyz2u1⟩) hHeld ?restz2u1
      case hyz2u1 => (intro w hSw; (try dsimp only at hSw); go_simp; first | done | with_reducible rfl)
      try simp only [Act.put, List.getElem_toArray, List.getElem_cons_zero, List.setIfInBounds_toArray, List.set_cons_zero, List.set_cons_succ]
      refine wpAnyH_take (i := 1) (oi := _) (v := ?vz2u2) rfl (by kernel_rfl) (by kernel_rfl) (by kernel_rfl) (fun _ _ _ h => h) (Or.inl ⟨by rfl, ?hyz2u2⟩) hHeld ?restz2u2
      case hyz2u2 => (intro w hSw; (try dsimp only at hSw); go_simp; first | done | with_reducible rfl)
      try simp only [Act.put, List.getElem_toArray, List.getElem_cons_zero, List.getElem_cons_succ, List.setIfInBounds_toArray, List.set_cons_zero, List.set_cons_succ]
      refine wpAnyH_ready (rs := [2]) (by kernel_rfl) (by simp) ?_
      refine AllReadyH.cons (o := _) rfl (fun K0 hK0 => ?_) AllReadyH.nil
      go_simp
      go_at_call 19
      refine (CP.out _ (hS.kept (Below.refl _ _).drew)).mono ?_
      rintro e wz2v3 ⟨c3, d3, rfl, o6, bz2v3⟩
      refine hK0.out _ _ (K.out _ (thenB (Below.refl _ _).drew bz2v3)) (fun hHeld => ?_)
      clear hK0 K0
      try simp only [Act.put, List.getElem_toArray, List.getElem_cons_zero, List.getElem_cons_succ, List.setIfInBounds_toArray, List.set_cons_zero, List.set_cons_succ]
      refine wpAnyH_ready (rs := [3]) (by kernel_rfl) (by simp) ?_
      refine AllReadyH.cons (o := _) rfl (fun K0 hK0 => ?_) AllReadyH.nil
      go_simp
      go_at_call 21
      refine (CQ.out _ _ _ _ _ (o4.kept (thenB (Below.refl _ _).drew bz2v3)).rd o6.rd).mono ?_
      rintro e wz2v4 ⟨rfl, bz2v4⟩
      refine hK0.out _ _ (K.out _ (thenB (thenB (Below.refl _ _).drew bz2v3) bz2v4)) (fun hHeld => ?_)
      clear hK0 K0
      try simp only [Act.put, List.getElem_toArray, List.getElem_cons_zero, List.getElem_cons_succ, List.setIfInBounds_toArray, List.set_cons_zero, List.set_cons_succ]
      refine wpAnyH_take (i := 4) (oi := _) (v := ?vz2u5) rfl (by kernel_rfl) (by kernel_rfl) (by kernel_rfl) (fun _ _ _ h => h) (Or.inl ⟨by rfl, ?hyz2u5⟩) hHeld ?restz2u5
      case hyz2u5 => (intro w hSw; (try dsimp only at hSw); go_simp; first | done | with_reducible rfl)
      try simp only [Act.put, List.getElem_toArray, List.getElem_cons_zero, List.getElem_cons_succ, List.setIfInBounds_toArray, List.set_cons_zero, List.set_cons_succ]
      refine wpAnyH_done (by kernel_rfl) ?_ _
      clear K hHeld
      replace VP := VP.kept (thenB (thenB (Below.refl _ _).drew bz2v3) bz2v4)
      replace VZ := VZ.kept (thenB (thenB (Below.refl _ _).drew bz2v3) bz2v4)
      replace hR := hR.kept (thenB (thenB (Below.refl _ _).drew bz2v3) bz2v4)
      replace hS := hS.kept (thenB (thenB (Below.refl _ _).drew bz2v3) bz2v4)
      replace o1 := o1.kept (thenB (thenB (Below.refl _ _).drew bz2v3) bz2v4)
      replace o2 := o2.kept (thenB (thenB (Below.refl _ _).drew bz2v3) bz2v4)
      replace o3 := o3.kept (thenB (thenB (Below.refl _ _).drew bz2v3) bz2v4)
      replace o4 := o4.kept (thenB (thenB (Below.refl _ _).drew bz2v3) bz2v4)
      replace o5 := o5.kept (thenB (thenB (Below.refl _ _).drew bz2v3) bz2v4)
      replace B := thenB B (thenB (thenB (Below.refl _ _).drew bz2v3) bz2v4)
      replace o6 := o6.kept bz2v4
      have Sz2 := ((thenB (thenB (Below.refl _ _).drew bz2v3) bz2v4)).size
      clear bz2v3 bz2v4
      obtain ⟨s_VP, f_VP, z_VP⟩ := VP.open
      obtain ⟨s_VZ, f_VZ, z_VZ⟩ := VZ.open
      have Bo := B
      go_wp2
      go_ret
      exact ⟨rfl, Bo⟩
    · have hlt : 1048576 - (n : Int) < (m : Int) := by omega
      have VP := V.new w [.int .i64 f, .int .i64 t, .int .i64 r, .int .i64 l, .int .i64 u, .int .i64 v, .slice s m cs] 41
      obtain ⟨s_VP, f_VP, z_VP⟩ := VP.open
      go_enter Try.func5, Try.ntmps5
      go_wp2_with fail
      refine (szSelS_in a n ca 1048576 _ hbig (by omega)).mono ?_
      rintro e wq ⟨rfl, rfl⟩
      go_wp2_with fail
      refine (szPacket_out f t r l u v s m cs (1048576 - (n : Int)) _ hlt (by omega) (by omega) hy').mono ?_
      rintro e w1 ⟨rfl, b1⟩
      go_wp2
      go_ret
      exact ⟨rfl, thenB (belowA w _) b1⟩
  · have hlt : 1048576 < (n : Int) := by omega
    go_enter Try.func5, Try.ntmps5
    go_wp2_with fail
    refine (szSelS_out a n ca 1048576 _ hlt (by omega) (by omega) hx').mono ?_
    rintro e wq ⟨rfl, rfl⟩
    go_wp2
    go_ret
    exact ⟨rfl, belowA w _⟩

end Go.Proofs.Ytmbkbbephmblmab
