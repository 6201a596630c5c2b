/- The law on 'FirstRule': its walk. -/
import Derived.Test.YtngkahchhioncaaDoorPolH
import Derived.Test.YtngkahchhioncaaDoorRuleH
import Derived.Test.YtngkahchhioncaaDoorPktH
namespace Go.Proofs.YtngkahchhioncaaDoor
open Go.RowKit

set_option maxRecDepth 20000 in
set_option maxHeartbeats 4000000 in
theorem eqRuleResult_ok (k a : Int) (x : R11) (w : World) :
    Calls Tryd.prog 33 #[.agg #[.int .i64 k, .int .i64 a, .int .i64 x.s.a, .int .i64 x.s.b, .int .i64 x.s.c, .int .i64 x.s.d, .int .i64 x.s.e, .int .i64 x.s.f, .int .i64 x.s.g, .int .i64 x.s.h, .int .i64 x.s.r, .int .i64 x.p, .int .i64 x.q], .agg #[.int .i64 k, .int .i64 a, .int .i64 x.s.a, .int .i64 x.s.b, .int .i64 x.s.c, .int .i64 x.s.d, .int .i64 x.s.e, .int .i64 x.s.f, .int .i64 x.s.g, .int .i64 x.s.h, .int .i64 x.s.r, .int .i64 x.p, .int .i64 x.q]] w fun e w' => e = .returned (.bool true) ∧ Below w.heap.size w w' := by
  go_enter Tryd.func33, Tryd.ntmps33
  have B := Below.refl w.heap.size w
  replace B := thenB B (belowA w (.cells #[.int .i64 k, .int .i64 a, .int .i64 x.s.a, .int .i64 x.s.b, .int .i64 x.s.c, .int .i64 x.s.d, .int .i64 x.s.e, .int .i64 x.s.f, .int .i64 x.s.g, .int .i64 x.s.h, .int .i64 x.s.r, .int .i64 x.p, .int .i64 x.q] 36))
  have VX := V.new w [.int .i64 k, .int .i64 a, .int .i64 x.s.a, .int .i64 x.s.b, .int .i64 x.s.c, .int .i64 x.s.d, .int .i64 x.s.e, .int .i64 x.s.f, .int .i64 x.s.g, .int .i64 x.s.h, .int .i64 x.s.r, .int .i64 x.p, .int .i64 x.q] 36
  replace VX := VX.kept (belowA (w.alloc (.cells #[.int .i64 k, .int .i64 a, .int .i64 x.s.a, .int .i64 x.s.b, .int .i64 x.s.c, .int .i64 x.s.d, .int .i64 x.s.e, .int .i64 x.s.f, .int .i64 x.s.g, .int .i64 x.s.h, .int .i64 x.s.r, .int .i64 x.p, .int .i64 x.q] 36)) (.cells #[.int .i64 k, .int .i64 a, .int .i64 x.s.a, .int .i64 x.s.b, .int .i64 x.s.c, .int .i64 x.s.d, .int .i64 x.s.e, .int .i64 x.s.f, .int .i64 x.s.g, .int .i64 x.s.h, .int .i64 x.s.r, .int .i64 x.p, .int .i64 x.q] 36))
  replace B := thenB B (belowA (w.alloc (.cells #[.int .i64 k, .int .i64 a, .int .i64 x.s.a, .int .i64 x.s.b, .int .i64 x.s.c, .int .i64 x.s.d, .int .i64 x.s.e, .int .i64 x.s.f, .int .i64 x.s.g, .int .i64 x.s.h, .int .i64 x.s.r, .int .i64 x.p, .int .i64 x.q] 36)) (.cells #[.int .i64 k, .int .i64 a, .int .i64 x.s.a, .int .i64 x.s.b, .int .i64 x.s.c, .int .i64 x.s.d, .int .i64 x.s.e, .int .i64 x.s.f, .int .i64 x.s.g, .int .i64 x.s.h, .int .i64 x.s.r, .int .i64 x.p, .int .i64 x.q] 36))
  have VY : V ((w.alloc (.cells #[.int .i64 k, .int .i64 a, .int .i64 x.s.a, .int .i64 x.s.b, .int .i64 x.s.c, .int .i64 x.s.d, .int .i64 x.s.e, .int .i64 x.s.f, .int .i64 x.s.g, .int .i64 x.s.h, .int .i64 x.s.r, .int .i64 x.p, .int .i64 x.q] 36)).alloc (.cells #[.int .i64 k, .int .i64 a, .int .i64 x.s.a, .int .i64 x.s.b, .int .i64 x.s.c, .int .i64 x.s.d, .int .i64 x.s.e, .int .i64 x.s.f, .int .i64 x.s.g, .int .i64 x.s.h, .int .i64 x.s.r, .int .i64 x.p, .int .i64 x.q] 36)) (w.heap.size + 1) [.int .i64 k, .int .i64 a, .int .i64 x.s.a, .int .i64 x.s.b, .int .i64 x.s.c, .int .i64 x.s.d, .int .i64 x.s.e, .int .i64 x.s.f, .int .i64 x.s.g, .int .i64 x.s.h, .int .i64 x.s.r, .int .i64 x.p, .int .i64 x.q] := V.newAt _ _ _ _ (by simp)
  obtain ⟨s_VX, f_VX, z_VX⟩ := VX.open
  obtain ⟨s_VY, f_VY, z_VY⟩ := VY.open
  have Bo := B
  go_wp2_with fail
  refine (eqRule_ok x _).mono ?_
  rintro e w1 ⟨rfl, b1⟩
  clear s_VX f_VX z_VX s_VY f_VY z_VY
  have S1 := b1.size
  simp only [World.size_alloc] at S1
  replace VX := VX.kept b1
  replace VY := VY.kept b1
  replace B := thenB B b1
  clear b1
  obtain ⟨s_VX, f_VX, z_VX⟩ := VX.open
  obtain ⟨s_VY, f_VY, z_VY⟩ := VY.open
  have Bo := B
  go_wp2
  go_ret
  exact ⟨rfl, Bo⟩

set_option maxRecDepth 20000 in
set_option maxHeartbeats 8000000 in
theorem xFirst_walk (a : Option Addr) (n ca : Nat) (xs : List R11) (f t r l u v : Int) (s : Option Addr) (m cs : Nat) (ys : List Int) (w : World) (hR : RdRule w a xs) (hn : xs.length = n) (hx' : n ≤ maxLen) (hS : Rd .u8 w s ys) (hm : ys.length = m) (hy' : m ≤ maxLen) :
    Calls Tryd.prog 6 #[.slice a n ca, .agg #[.int .i64 f, .int .i64 t, .int .i64 r, .int .i64 l, .int .i64 u, .int .i64 v, .slice s m cs]] w fun e w' => e = .returned (.bool true) ∧ Below w.heap.size w w' := by
  by_cases hbig : (n : Int) ≤ 1048576
  · have h0 : 0 ≤ 1048576 - (n : Int) := by omega
    by_cases hbig2 : (m : Int) ≤ 1048576 - (n : Int)
    · have h1 : 0 ≤ 1048576 - (n : Int) - (m : Int) := by omega
      have CT := Hid.mk (fun w h => toRuleS_ok a n ca xs w h hn (by omega))
      have CP := Hid.mk (fun w h => toPacket_ok f t r l u v s m cs ys w h hm (by omega))
      have CS := Hid.mk (fun c d s cs w h => specFirstRule_ok c n d xs f t r l u v s m cs w h hn hx')
      have CI := Hid.mk (fun c d s cs w h => (frV_is xs f t r l u v m) ▸ implFirstRule_ok c n d xs f t r l u v s m cs w h hn hx')
      have CE := Hid.mk (fun c c' d d' w h h' => eqRuleS_ok c c' n d d' xs w h h' hn hx')
      have CQ := Hid.mk (fun c c' d d' w h h' => eqPacket_ok f t r l u v c c' m d d' ys w h h' hm hy')
      have HB2 := Hid.mk hbig2
      generalize frC xs f t r l u v m = k at *
      generalize frA xs f t r l u v m = aa at *
      generalize frR xs f t r l u v m = x at *
      clear hbig2 hn hm
      go_enter Tryd.func6, Tryd.ntmps6
      have B := Below.refl w.heap.size w
      replace hR := hR.kept (belowA w (.cells #[.int .i64 f, .int .i64 t, .int .i64 r, .int .i64 l, .int .i64 u, .int .i64 v, .slice s m cs] 62))
      replace hS := hS.kept (belowA w (.cells #[.int .i64 f, .int .i64 t, .int .i64 r, .int .i64 l, .int .i64 u, .int .i64 v, .slice s m cs] 62))
      replace B := thenB B (belowA w (.cells #[.int .i64 f, .int .i64 t, .int .i64 r, .int .i64 l, .int .i64 u, .int .i64 v, .slice s m cs] 62))
      have VP := V.new w [.int .i64 f, .int .i64 t, .int .i64 r, .int .i64 l, .int .i64 u, .int .i64 v, .slice s m cs] 62
      obtain ⟨s_VP, f_VP, z_VP⟩ := VP.open
      have HR0 := Hid.mk hR
      have HS0 := Hid.mk hS
      go_wp2_with fail
      refine (szRuleS_in a n ca 1048576 _ hbig (by omega)).mono ?_
      rintro e wq ⟨rfl, rfl⟩
      go_wp2_with fail
      refine (szPacket_in f t r l u v s m cs (1048576 - (n : Int)) _ HB2.out (by omega)).mono ?_
      rintro e w1 ⟨rfl, b1⟩
      clear s_VP f_VP z_VP
      have S1 := b1.size
      simp only [World.size_alloc] at S1
      replace VP := VP.kept b1
      replace hR := hR.kept b1
      replace hS := hS.kept b1
      replace B := thenB B b1
      clear b1
      obtain ⟨s_VP, f_VP, z_VP⟩ := VP.open
      have Bo := B
      replace HR0 := Hid.mk hR
      replace HS0 := Hid.mk hS
      clear s_VP f_VP z_VP
      have K : ∀ w' : World, Below w1.heap.size w1 w' → (w'.cell? ⟨w.heap.size, 0, none⟩ = some (.int .i64 f) ∧ w'.cell? ⟨w.heap.size, 1, none⟩ = some (.int .i64 t) ∧ w'.cell? ⟨w.heap.size, 2, none⟩ = some (.int .i64 r) ∧ w'.cell? ⟨w.heap.size, 3, none⟩ = some (.int .i64 l) ∧ w'.cell? ⟨w.heap.size, 4, none⟩ = some (.int .i64 u) ∧ w'.cell? ⟨w.heap.size, 5, none⟩ = some (.int .i64 v) ∧ w'.cell? ⟨w.heap.size, 6, none⟩ = some (.slice s m cs)) := fun w' h => ⟨(VP.kept h).2.1 0 (by simp), (VP.kept h).2.1 1 (by simp), (VP.kept h).2.1 2 (by simp), (VP.kept h).2.1 3 (by simp), (VP.kept h).2.1 4 (by simp), (VP.kept h).2.1 5 (by simp), (VP.kept h).2.1 6 (by simp)⟩
      have K := Hid.mk K
      go_upto_region 8 with fail
      go_cut [6] (fun p wx => ∃ P, p = .pointer (some ⟨P, 0, none⟩) ∧ V wx P [.int .i64 k, .int .i64 aa, .int .i64 x.s.a, .int .i64 x.s.b, .int .i64 x.s.c, .int .i64 x.s.d, .int .i64 x.s.e, .int .i64 x.s.f, .int .i64 x.s.g, .int .i64 x.s.h, .int .i64 x.s.r, .int .i64 x.p, .int .i64 x.q] ∧ V wx (w.heap.size) [.int .i64 f, .int .i64 t, .int .i64 r, .int .i64 l, .int .i64 u, .int .i64 v, .slice s m cs] ∧ Below w.heap.size w wx ∧ Below w1.heap.size w1 wx ∧ w1.heap.size ≤ P)
      case first =>
        refine wp_region_held_drew (S := (fun w' => w'.cell? ⟨w.heap.size, 0, none⟩ = some (.int .i64 f) ∧ w'.cell? ⟨w.heap.size, 1, none⟩ = some (.int .i64 t) ∧ w'.cell? ⟨w.heap.size, 2, none⟩ = some (.int .i64 r) ∧ w'.cell? ⟨w.heap.size, 3, none⟩ = some (.int .i64 l) ∧ w'.cell? ⟨w.heap.size, 4, none⟩ = some (.int .i64 u) ∧ w'.cell? ⟨w.heap.size, 5, none⟩ = some (.int .i64 v) ∧ w'.cell? ⟨w.heap.size, 6, none⟩ = some (.slice s m cs))) (by kernel_rfl) (K.out _ (Below.refl _ _).drew) (fun hHeld => ?_)
        have bd : Below w1.heap.size w1 w1.drew := (Below.refl _ _).drew
        generalize w1.drew = wd at *
        refine wpAnyH_take (i := 0) (oi := _) (v := ?vmk1u1) rfl (by kernel_rfl) (by kernel_rfl) (by kernel_rfl) (fun _ _ _ h => h) (Or.inl ⟨by rfl, ?hymk1u1⟩) hHeld ?restmk1u1
        case hymk1u1 => (intro w hSw; (try dsimp only at hSw); go_simp; first | done | with_reducible rfl)
        try simp only [Act.put, List.getElem_toArray, List.getElem_cons_zero, List.setIfInBounds_toArray, List.set_cons_zero, List.set_cons_succ]
        refine wpAnyH_take (i := 2) (oi := _) (v := ?vmk1u2) rfl (by kernel_rfl) (by kernel_rfl) (by kernel_rfl) (fun _ _ _ h => h) (Or.inl ⟨by rfl, ?hymk1u2⟩) hHeld ?restmk1u2
        case hymk1u2 => (intro w hSw; (try dsimp only at hSw); go_simp; first | done | with_reducible rfl)
        try simp only [Act.put, List.getElem_toArray, List.getElem_cons_zero, List.getElem_cons_succ, List.setIfInBounds_toArray, List.set_cons_zero, List.set_cons_succ]
        refine wpAnyH_ready (rs := [1, 5]) (by kernel_rfl) (by simp) ?_
        refine AllReadyH.cons (o := _) rfl (fun K0 hK0 => ?_) (AllReadyH.cons (o := _) rfl (fun K0 hK0 => ?_) AllReadyH.nil)
        · skip
          go_simp
          go_at_call 29
          refine (CT.out _ (HR0.out.kept bd)).mono ?_
          rintro e wmk13 ⟨rfl, oR, bmk13⟩
          refine hK0.out _ _ (K.out _ (thenB bd bmk13)) (fun hHeld => ?_)
          clear hK0 K0
          try simp only [Act.put, List.getElem_toArray, List.getElem_cons_zero, List.getElem_cons_succ, List.setIfInBounds_toArray, List.set_cons_zero, List.set_cons_succ]
          refine wpAnyH_ready (rs := [3, 5]) (by kernel_rfl) (by simp) ?_
          refine AllReadyH.cons (o := _) rfl (fun K0 hK0 => ?_) (AllReadyH.cons (o := _) rfl (fun K0 hK0 => ?_) AllReadyH.nil)
          · skip
            go_simp
            go_at_call 32
            refine (CP.out _ (HS0.out.kept (thenB bd bmk13))).mono ?_
            rintro e wmk14 ⟨cP, dP, rfl, oP, bmk14⟩
            refine hK0.out _ _ (K.out _ (thenB (thenB bd bmk13) bmk14)) (fun hHeld => ?_)
            clear hK0 K0
            try simp only [Act.put, List.getElem_toArray, List.getElem_cons_zero, List.getElem_cons_succ, List.setIfInBounds_toArray, List.set_cons_zero, List.set_cons_succ]
            refine wpAnyH_ready (rs := [4, 5]) (by kernel_rfl) (by simp) ?_
            refine AllReadyH.cons (o := _) rfl (fun K0 hK0 => ?_) (AllReadyH.cons (o := _) rfl (fun K0 hK0 => ?_) AllReadyH.nil)
            · skip
              go_simp
              go_at_call 17
              refine (CS.out _ _ _ _ _ (oR.kept (thenB (Below.refl _ _) bmk14)).rd).mono ?_
              rintro e wmk15 ⟨rfl, bmk15⟩
              refine hK0.out _ _ (K.out _ (thenB (thenB (thenB bd bmk13) bmk14) bmk15)) (fun hHeld => ?_)
              clear hK0 K0
              try simp only [Act.put, List.getElem_toArray, List.getElem_cons_zero, List.getElem_cons_succ, List.setIfInBounds_toArray, List.set_cons_zero, List.set_cons_succ]
              refine wpAnyH_ready (rs := [5]) (by kernel_rfl) (by simp) ?_
              refine AllReadyH.cons (o := _) rfl (fun K0 hK0 => ?_) AllReadyH.nil
              go_simp
              refine hK0.out _ _ (K.out _ (thenB (thenB (thenB (thenB bd bmk13) bmk14) bmk15) (belowA wmk15 (.cells #[.int .i64 0, .int .i64 0, .int .i64 0, .int .i64 0, .int .i64 0, .int .i64 0, .int .i64 0, .int .i64 0, .int .i64 0, .int .i64 0, .int .i64 0, .int .i64 0, .int .i64 0] 36)))) (fun hHeld => ?_)
              clear hK0 K0
              try simp only [Act.put, List.getElem_toArray, List.getElem_cons_zero, List.getElem_cons_succ, List.setIfInBounds_toArray, List.set_cons_zero, List.set_cons_succ]
              have VN : V (wmk15.alloc (.cells #[.int .i64 0, .int .i64 0, .int .i64 0, .int .i64 0, .int .i64 0, .int .i64 0, .int .i64 0, .int .i64 0, .int .i64 0, .int .i64 0, .int .i64 0, .int .i64 0, .int .i64 0] 36)) wmk15.heap.size [.int .i64 0, .int .i64 0, .int .i64 0, .int .i64 0, .int .i64 0, .int .i64 0, .int .i64 0, .int .i64 0, .int .i64 0, .int .i64 0, .int .i64 0, .int .i64 0, .int .i64 0] := V.new _ _ _
              have bqmk16 := belowA wmk15 (.cells #[.int .i64 0, .int .i64 0, .int .i64 0, .int .i64 0, .int .i64 0, .int .i64 0, .int .i64 0, .int .i64 0, .int .i64 0, .int .i64 0, .int .i64 0, .int .i64 0, .int .i64 0] 36)
              generalize wmk15.alloc (.cells #[.int .i64 0, .int .i64 0, .int .i64 0, .int .i64 0, .int .i64 0, .int .i64 0, .int .i64 0, .int .i64 0, .int .i64 0, .int .i64 0, .int .i64 0, .int .i64 0, .int .i64 0] 36) = wqmk16 at *
              refine wpAnyH_ready (rs := [6]) (by kernel_rfl) (by simp) ?_
              refine AllReadyH.cons (o := _) rfl (fun K0 hK0 => ?_) AllReadyH.nil
              rw [if_pos (by rfl)]
              have hT := VN.there
              have VF := VN.filled [.int .i64 k, .int .i64 aa, .int .i64 x.s.a, .int .i64 x.s.b, .int .i64 x.s.c, .int .i64 x.s.d, .int .i64 x.s.e, .int .i64 x.s.f, .int .i64 x.s.g, .int .i64 x.s.h, .int .i64 x.s.r, .int .i64 x.p, .int .i64 x.q] rfl
              have hle := ((thenB (thenB (thenB bd bmk13) bmk14) bmk15)).size
              have bF := belowCells ((thenB (thenB (thenB (thenB bd bmk13) bmk14) bmk15) bqmk16)) hle 0 [.int .i64 k, .int .i64 aa, .int .i64 x.s.a, .int .i64 x.s.b, .int .i64 x.s.c, .int .i64 x.s.d, .int .i64 x.s.e, .int .i64 x.s.f, .int .i64 x.s.g, .int .i64 x.s.h, .int .i64 x.s.r, .int .i64 x.p, .int .i64 x.q]
              refine wp_store_mid _ _ _ rfl (wmk15.heap.size) 0 #[.int .i64 k, .int .i64 aa, .int .i64 x.s.a, .int .i64 x.s.b, .int .i64 x.s.c, .int .i64 x.s.d, .int .i64 x.s.e, .int .i64 x.s.f, .int .i64 x.s.g, .int .i64 x.s.h, .int .i64 x.s.r, .int .i64 x.p, .int .i64 x.q] rfl rfl hT (by kernel_rfl) (by kernel_rfl) ?_
              refine hK0.out _ _ (K.out _ bF) (fun hHeld => ?_)
              clear hK0 K0
              refine wpAnyH_done (by kernel_rfl) ?_ _
              go_wp2_with fail
              go_meet
              exact ⟨wmk15.heap.size, rfl, VF, VP.kept bF, thenB B bF, bF, hle⟩
            · skip
              go_simp
              refine hK0.out _ _ (K.out _ (thenB (thenB (thenB bd bmk13) bmk14) (belowA wmk14 (.cells #[.int .i64 0, .int .i64 0, .int .i64 0, .int .i64 0, .int .i64 0, .int .i64 0, .int .i64 0, .int .i64 0, .int .i64 0, .int .i64 0, .int .i64 0, .int .i64 0, .int .i64 0] 36)))) (fun hHeld => ?_)
              clear hK0 K0
              try simp only [Act.put, List.getElem_toArray, List.getElem_cons_zero, List.getElem_cons_succ, List.setIfInBounds_toArray, List.set_cons_zero, List.set_cons_succ]
              have VN : V (wmk14.alloc (.cells #[.int .i64 0, .int .i64 0, .int .i64 0, .int .i64 0, .int .i64 0, .int .i64 0, .int .i64 0, .int .i64 0, .int .i64 0, .int .i64 0, .int .i64 0, .int .i64 0, .int .i64 0] 36)) wmk14.heap.size [.int .i64 0, .int .i64 0, .int .i64 0, .int .i64 0, .int .i64 0, .int .i64 0, .int .i64 0, .int .i64 0, .int .i64 0, .int .i64 0, .int .i64 0, .int .i64 0, .int .i64 0] := V.new _ _ _
              have bqmk17 := belowA wmk14 (.cells #[.int .i64 0, .int .i64 0, .int .i64 0, .int .i64 0, .int .i64 0, .int .i64 0, .int .i64 0, .int .i64 0, .int .i64 0, .int .i64 0, .int .i64 0, .int .i64 0, .int .i64 0] 36)
              generalize wmk14.alloc (.cells #[.int .i64 0, .int .i64 0, .int .i64 0, .int .i64 0, .int .i64 0, .int .i64 0, .int .i64 0, .int .i64 0, .int .i64 0, .int .i64 0, .int .i64 0, .int .i64 0, .int .i64 0] 36) = wqmk17 at *
              refine wpAnyH_ready (rs := [4]) (by kernel_rfl) (by simp) ?_
              refine AllReadyH.cons (o := _) rfl (fun K0 hK0 => ?_) AllReadyH.nil
              go_simp
              go_at_call 17
              refine (CS.out _ _ _ _ _ (oR.kept (thenB (thenB (Below.refl _ _) bmk14) bqmk17)).rd).mono ?_
              rintro e wmk18 ⟨rfl, bmk18⟩
              replace VN := VN.kept bmk18
              refine hK0.out _ _ (K.out _ (thenB (thenB (thenB (thenB bd bmk13) bmk14) bqmk17) bmk18)) (fun hHeld => ?_)
              clear hK0 K0
              try simp only [Act.put, List.getElem_toArray, List.getElem_cons_zero, List.getElem_cons_succ, List.setIfInBounds_toArray, List.set_cons_zero, List.set_cons_succ]
              refine wpAnyH_ready (rs := [6]) (by kernel_rfl) (by simp) ?_
              refine AllReadyH.cons (o := _) rfl (fun K0 hK0 => ?_) AllReadyH.nil
              rw [if_pos (by rfl)]
              have hT := VN.there
              have VF := VN.filled [.int .i64 k, .int .i64 aa, .int .i64 x.s.a, .int .i64 x.s.b, .int .i64 x.s.c, .int .i64 x.s.d, .int .i64 x.s.e, .int .i64 x.s.f, .int .i64 x.s.g, .int .i64 x.s.h, .int .i64 x.s.r, .int .i64 x.p, .int .i64 x.q] rfl
              have hle := ((thenB (thenB bd bmk13) bmk14)).size
              have bF := belowCells ((thenB (thenB (thenB (thenB bd bmk13) bmk14) bqmk17) bmk18)) hle 0 [.int .i64 k, .int .i64 aa, .int .i64 x.s.a, .int .i64 x.s.b, .int .i64 x.s.c, .int .i64 x.s.d, .int .i64 x.s.e, .int .i64 x.s.f, .int .i64 x.s.g, .int .i64 x.s.h, .int .i64 x.s.r, .int .i64 x.p, .int .i64 x.q]
              refine wp_store_mid _ _ _ rfl (wmk14.heap.size) 0 #[.int .i64 k, .int .i64 aa, .int .i64 x.s.a, .int .i64 x.s.b, .int .i64 x.s.c, .int .i64 x.s.d, .int .i64 x.s.e, .int .i64 x.s.f, .int .i64 x.s.g, .int .i64 x.s.h, .int .i64 x.s.r, .int .i64 x.p, .int .i64 x.q] rfl rfl hT (by kernel_rfl) (by kernel_rfl) ?_
              refine hK0.out _ _ (K.out _ bF) (fun hHeld => ?_)
              clear hK0 K0
              refine wpAnyH_done (by kernel_rfl) ?_ _
              go_wp2_with fail
              go_meet
              exact ⟨wmk14.heap.size, rfl, VF, VP.kept bF, thenB B bF, bF, hle⟩
          · skip
            go_simp
            refine hK0.out _ _ (K.out _ (thenB (thenB bd bmk13) (belowA wmk13 (.cells #[.int .i64 0, .int .i64 0, .int .i64 0, .int .i64 0, .int .i64 0, .int .i64 0, .int .i64 0, .int .i64 0, .int .i64 0, .int .i64 0, .int .i64 0, .int .i64 0, .int .i64 0] 36)))) (fun hHeld => ?_)
            clear hK0 K0
            try simp only [Act.put, List.getElem_toArray, List.getElem_cons_zero, List.getElem_cons_succ, List.setIfInBounds_toArray, List.set_cons_zero, List.set_cons_succ]
            have VN : V (wmk13.alloc (.cells #[.int .i64 0, .int .i64 0, .int .i64 0, .int .i64 0, .int .i64 0, .int .i64 0, .int .i64 0, .int .i64 0, .int .i64 0, .int .i64 0, .int .i64 0, .int .i64 0, .int .i64 0] 36)) wmk13.heap.size [.int .i64 0, .int .i64 0, .int .i64 0, .int .i64 0, .int .i64 0, .int .i64 0, .int .i64 0, .int .i64 0, .int .i64 0, .int .i64 0, .int .i64 0, .int .i64 0, .int .i64 0] := V.new _ _ _
            have bqmk19 := belowA wmk13 (.cells #[.int .i64 0, .int .i64 0, .int .i64 0, .int .i64 0, .int .i64 0, .int .i64 0, .int .i64 0, .int .i64 0, .int .i64 0, .int .i64 0, .int .i64 0, .int .i64 0, .int .i64 0] 36)
            generalize wmk13.alloc (.cells #[.int .i64 0, .int .i64 0, .int .i64 0, .int .i64 0, .int .i64 0, .int .i64 0, .int .i64 0, .int .i64 0, .int .i64 0, .int .i64 0, .int .i64 0, .int .i64 0, .int .i64 0] 36) = wqmk19 at *
            refine wpAnyH_ready (rs := [3]) (by kernel_rfl) (by simp) ?_
            refine AllReadyH.cons (o := _) rfl (fun K0 hK0 => ?_) AllReadyH.nil
            go_simp
            go_at_call 32
            refine (CP.out _ (HS0.out.kept (thenB (thenB bd bmk13) bqmk19))).mono ?_
            rintro e wmk110 ⟨cP, dP, rfl, oP, bmk110⟩
            replace VN := VN.kept bmk110
            refine hK0.out _ _ (K.out _ (thenB (thenB (thenB bd bmk13) bqmk19) bmk110)) (fun hHeld => ?_)
            clear hK0 K0
            try simp only [Act.put, List.getElem_toArray, List.getElem_cons_zero, List.getElem_cons_succ, List.setIfInBounds_toArray, List.set_cons_zero, List.set_cons_succ]
            refine wpAnyH_ready (rs := [4]) (by kernel_rfl) (by simp) ?_
            refine AllReadyH.cons (o := _) rfl (fun K0 hK0 => ?_) AllReadyH.nil
            go_simp
            go_at_call 17
            refine (CS.out _ _ _ _ _ (oR.kept (thenB (thenB (Below.refl _ _) bqmk19) bmk110)).rd).mono ?_
            rintro e wmk111 ⟨rfl, bmk111⟩
            replace VN := VN.kept bmk111
            refine hK0.out _ _ (K.out _ (thenB (thenB (thenB (thenB bd bmk13) bqmk19) bmk110) bmk111)) (fun hHeld => ?_)
            clear hK0 K0
            try simp only [Act.put, List.getElem_toArray, List.getElem_cons_zero, List.getElem_cons_succ, List.setIfInBounds_toArray, List.set_cons_zero, List.set_cons_succ]
            refine wpAnyH_ready (rs := [6]) (by kernel_rfl) (by simp) ?_
            refine AllReadyH.cons (o := _) rfl (fun K0 hK0 => ?_) AllReadyH.nil
            rw [if_pos (by rfl)]
            have hT := VN.there
            have VF := VN.filled [.int .i64 k, .int .i64 aa, .int .i64 x.s.a, .int .i64 x.s.b, .int .i64 x.s.c, .int .i64 x.s.d, .int .i64 x.s.e, .int .i64 x.s.f, .int .i64 x.s.g, .int .i64 x.s.h, .int .i64 x.s.r, .int .i64 x.p, .int .i64 x.q] rfl
            have hle := ((thenB bd bmk13)).size
            have bF := belowCells ((thenB (thenB (thenB (thenB bd bmk13) bqmk19) bmk110) bmk111)) hle 0 [.int .i64 k, .int .i64 aa, .int .i64 x.s.a, .int .i64 x.s.b, .int .i64 x.s.c, .int .i64 x.s.d, .int .i64 x.s.e, .int .i64 x.s.f, .int .i64 x.s.g, .int .i64 x.s.h, .int .i64 x.s.r, .int .i64 x.p, .int .i64 x.q]
            refine wp_store_mid _ _ _ rfl (wmk13.heap.size) 0 #[.int .i64 k, .int .i64 aa, .int .i64 x.s.a, .int .i64 x.s.b, .int .i64 x.s.c, .int .i64 x.s.d, .int .i64 x.s.e, .int .i64 x.s.f, .int .i64 x.s.g, .int .i64 x.s.h, .int .i64 x.s.r, .int .i64 x.p, .int .i64 x.q] rfl rfl hT (by kernel_rfl) (by kernel_rfl) ?_
            refine hK0.out _ _ (K.out _ bF) (fun hHeld => ?_)
            clear hK0 K0
            refine wpAnyH_done (by kernel_rfl) ?_ _
            go_wp2_with fail
            go_meet
            exact ⟨wmk13.heap.size, rfl, VF, VP.kept bF, thenB B bF, bF, hle⟩
        · skip
          go_simp
          refine hK0.out _ _ (K.out _ (thenB bd (belowA wd (.cells #[.int .i64 0, .int .i64 0, .int .i64 0, .int .i64 0, .int .i64 0, .int .i64 0, .int .i64 0, .int .i64 0, .int .i64 0, .int .i64 0, .int .i64 0, .int .i64 0, .int .i64 0] 36)))) (fun hHeld => ?_)
          clear hK0 K0
          try simp only [Act.put, List.getElem_toArray, List.getElem_cons_zero, List.getElem_cons_succ, List.setIfInBounds_toArray, List.set_cons_zero, List.set_cons_succ]
          have VN : V (wd.alloc (.cells #[.int .i64 0, .int .i64 0, .int .i64 0, .int .i64 0, .int .i64 0, .int .i64 0, .int .i64 0, .int .i64 0, .int .i64 0, .int .i64 0, .int .i64 0, .int .i64 0, .int .i64 0] 36)) wd.heap.size [.int .i64 0, .int .i64 0, .int .i64 0, .int .i64 0, .int .i64 0, .int .i64 0, .int .i64 0, .int .i64 0, .int .i64 0, .int .i64 0, .int .i64 0, .int .i64 0, .int .i64 0] := V.new _ _ _
          have bqmk112 := belowA wd (.cells #[.int .i64 0, .int .i64 0, .int .i64 0, .int .i64 0, .int .i64 0, .int .i64 0, .int .i64 0, .int .i64 0, .int .i64 0, .int .i64 0, .int .i64 0, .int .i64 0, .int .i64 0] 36)
          generalize wd.alloc (.cells #[.int .i64 0, .int .i64 0, .int .i64 0, .int .i64 0, .int .i64 0, .int .i64 0, .int .i64 0, .int .i64 0, .int .i64 0, .int .i64 0, .int .i64 0, .int .i64 0, .int .i64 0] 36) = wqmk112 at *
          refine wpAnyH_ready (rs := [1]) (by kernel_rfl) (by simp) ?_
          refine AllReadyH.cons (o := _) rfl (fun K0 hK0 => ?_) AllReadyH.nil
          go_simp
          go_at_call 29
          refine (CT.out _ (HR0.out.kept (thenB bd bqmk112))).mono ?_
          rintro e wmk113 ⟨rfl, oR, bmk113⟩
          replace VN := VN.kept bmk113
          refine hK0.out _ _ (K.out _ (thenB (thenB bd bqmk112) bmk113)) (fun hHeld => ?_)
          clear hK0 K0
          try simp only [Act.put, List.getElem_toArray, List.getElem_cons_zero, List.getElem_cons_succ, List.setIfInBounds_toArray, List.set_cons_zero, List.set_cons_succ]
          refine wpAnyH_ready (rs := [3]) (by kernel_rfl) (by simp) ?_
          refine AllReadyH.cons (o := _) rfl (fun K0 hK0 => ?_) AllReadyH.nil
          go_simp
          go_at_call 32
          refine (CP.out _ (HS0.out.kept (thenB (thenB bd bqmk112) bmk113))).mono ?_
          rintro e wmk114 ⟨cP, dP, rfl, oP, bmk114⟩
          replace VN := VN.kept bmk114
          refine hK0.out _ _ (K.out _ (thenB (thenB (thenB bd bqmk112) bmk113) bmk114)) (fun hHeld => ?_)
          clear hK0 K0
          try simp only [Act.put, List.getElem_toArray, List.getElem_cons_zero, List.getElem_cons_succ, List.setIfInBounds_toArray, List.set_cons_zero, List.set_cons_succ]
          refine wpAnyH_ready (rs := [4]) (by kernel_rfl) (by simp) ?_
          refine AllReadyH.cons (o := _) rfl (fun K0 hK0 => ?_) AllReadyH.nil
          go_simp
          go_at_call 17
          refine (CS.out _ _ _ _ _ (oR.kept (thenB (Below.refl _ _) bmk114)).rd).mono ?_
          rintro e wmk115 ⟨rfl, bmk115⟩
          replace VN := VN.kept bmk115
          refine hK0.out _ _ (K.out _ (thenB (thenB (thenB (thenB bd bqmk112) bmk113) bmk114) bmk115)) (fun hHeld => ?_)
          clear hK0 K0
          try simp only [Act.put, List.getElem_toArray, List.getElem_cons_zero, List.getElem_cons_succ, List.setIfInBounds_toArray, List.set_cons_zero, List.set_cons_succ]
          refine wpAnyH_ready (rs := [6]) (by kernel_rfl) (by simp) ?_
          refine AllReadyH.cons (o := _) rfl (fun K0 hK0 => ?_) AllReadyH.nil
          rw [if_pos (by rfl)]
          have hT := VN.there
          have VF := VN.filled [.int .i64 k, .int .i64 aa, .int .i64 x.s.a, .int .i64 x.s.b, .int .i64 x.s.c, .int .i64 x.s.d, .int .i64 x.s.e, .int .i64 x.s.f, .int .i64 x.s.g, .int .i64 x.s.h, .int .i64 x.s.r, .int .i64 x.p, .int .i64 x.q] rfl
          have hle := (bd).size
          have bF := belowCells ((thenB (thenB (thenB (thenB bd bqmk112) bmk113) bmk114) bmk115)) hle 0 [.int .i64 k, .int .i64 aa, .int .i64 x.s.a, .int .i64 x.s.b, .int .i64 x.s.c, .int .i64 x.s.d, .int .i64 x.s.e, .int .i64 x.s.f, .int .i64 x.s.g, .int .i64 x.s.h, .int .i64 x.s.r, .int .i64 x.p, .int .i64 x.q]
          refine wp_store_mid _ _ _ rfl (wd.heap.size) 0 #[.int .i64 k, .int .i64 aa, .int .i64 x.s.a, .int .i64 x.s.b, .int .i64 x.s.c, .int .i64 x.s.d, .int .i64 x.s.e, .int .i64 x.s.f, .int .i64 x.s.g, .int .i64 x.s.h, .int .i64 x.s.r, .int .i64 x.p, .int .i64 x.q] rfl rfl hT (by kernel_rfl) (by kernel_rfl) ?_
          refine hK0.out _ _ (K.out _ bF) (fun hHeld => ?_)
          clear hK0 K0
          refine wpAnyH_done (by kernel_rfl) ?_ _
          go_wp2_with fail
          go_meet
          exact ⟨wd.heap.size, rfl, VF, VP.kept bF, thenB B bF, bF, hle⟩
      case rest =>
        clear VP B K
        obtain ⟨P, rfl, VW, VP, B, BQ, hP⟩ := hcut
        have hR := HR0.out.kept BQ
        have hS := HS0.out.kept BQ
        obtain ⟨s_VP, f_VP, z_VP⟩ := VP.open
        obtain ⟨s_VW, f_VW, z_VW⟩ := VW.open
        have Bo := B
        go_wp2_with fail
        refine (CT.out _ hR).mono ?_
        rintro e w2 ⟨rfl, o3, b2⟩
        clear s_VP f_VP z_VP s_VW f_VW z_VW
        have S2 := b2.size
        replace VP := VP.kept b2
        replace VW := VW.kept b2
        replace hR := hR.kept b2
        replace hS := hS.kept b2
        replace B := thenB B b2
        clear b2
        obtain ⟨s_VP, f_VP, z_VP⟩ := VP.open
        obtain ⟨s_VW, f_VW, z_VW⟩ := VW.open
        have Bo := B
        go_wp2_with fail
        refine (CP.out _ hS).mono ?_
        rintro e w3 ⟨c2, d2, rfl, o4, b3⟩
        clear s_VP f_VP z_VP s_VW f_VW z_VW
        have S3 := b3.size
        replace VP := VP.kept b3
        replace VW := VW.kept b3
        replace hR := hR.kept b3
        replace hS := hS.kept b3
        replace o3 := o3.kept b3
        replace B := thenB B b3
        clear b3
        obtain ⟨s_VP, f_VP, z_VP⟩ := VP.open
        obtain ⟨s_VW, f_VW, z_VW⟩ := VW.open
        have Bo := B
        replace VP := VP.kept (belowA w3 (.cells #[.int .i64 f, .int .i64 t, .int .i64 r, .int .i64 l, .int .i64 u, .int .i64 v, .slice c2 m d2] 26))
        replace VW := VW.kept (belowA w3 (.cells #[.int .i64 f, .int .i64 t, .int .i64 r, .int .i64 l, .int .i64 u, .int .i64 v, .slice c2 m d2] 26))
        replace hR := hR.kept (belowA w3 (.cells #[.int .i64 f, .int .i64 t, .int .i64 r, .int .i64 l, .int .i64 u, .int .i64 v, .slice c2 m d2] 26))
        replace hS := hS.kept (belowA w3 (.cells #[.int .i64 f, .int .i64 t, .int .i64 r, .int .i64 l, .int .i64 u, .int .i64 v, .slice c2 m d2] 26))
        replace o3 := o3.kept (belowA w3 (.cells #[.int .i64 f, .int .i64 t, .int .i64 r, .int .i64 l, .int .i64 u, .int .i64 v, .slice c2 m d2] 26))
        replace o4 := o4.kept (belowA w3 (.cells #[.int .i64 f, .int .i64 t, .int .i64 r, .int .i64 l, .int .i64 u, .int .i64 v, .slice c2 m d2] 26))
        replace B := thenB B (belowA w3 (.cells #[.int .i64 f, .int .i64 t, .int .i64 r, .int .i64 l, .int .i64 u, .int .i64 v, .slice c2 m d2] 26))
        have VZ := V.new w3 [.int .i64 f, .int .i64 t, .int .i64 r, .int .i64 l, .int .i64 u, .int .i64 v, .slice c2 m d2] 26
        go_wp2_with fail
        refine (CI.out _ _ _ _ _ o3.rd).mono ?_
        rintro e w4 ⟨rfl, b4⟩
        clear s_VP f_VP z_VP s_VW f_VW z_VW
        have S4 := b4.size
        simp only [World.size_alloc] at S4
        replace VP := VP.kept b4
        replace VW := VW.kept b4
        replace VZ := VZ.kept b4
        replace hR := hR.kept b4
        replace hS := hS.kept b4
        replace o3 := o3.kept b4
        replace o4 := o4.kept b4
        replace B := thenB B b4
        clear b4
        obtain ⟨s_VP, f_VP, z_VP⟩ := VP.open
        obtain ⟨s_VW, f_VW, z_VW⟩ := VW.open
        obtain ⟨s_VZ, f_VZ, z_VZ⟩ := VZ.open
        have Bo := B
        replace VP := VP.kept (belowA w4 (.cells #[.int .i64 k, .int .i64 aa, .int .i64 x.s.a, .int .i64 x.s.b, .int .i64 x.s.c, .int .i64 x.s.d, .int .i64 x.s.e, .int .i64 x.s.f, .int .i64 x.s.g, .int .i64 x.s.h, .int .i64 x.s.r, .int .i64 x.p, .int .i64 x.q] 36))
        replace VW := VW.kept (belowA w4 (.cells #[.int .i64 k, .int .i64 aa, .int .i64 x.s.a, .int .i64 x.s.b, .int .i64 x.s.c, .int .i64 x.s.d, .int .i64 x.s.e, .int .i64 x.s.f, .int .i64 x.s.g, .int .i64 x.s.h, .int .i64 x.s.r, .int .i64 x.p, .int .i64 x.q] 36))
        replace VZ := VZ.kept (belowA w4 (.cells #[.int .i64 k, .int .i64 aa, .int .i64 x.s.a, .int .i64 x.s.b, .int .i64 x.s.c, .int .i64 x.s.d, .int .i64 x.s.e, .int .i64 x.s.f, .int .i64 x.s.g, .int .i64 x.s.h, .int .i64 x.s.r, .int .i64 x.p, .int .i64 x.q] 36))
        replace hR := hR.kept (belowA w4 (.cells #[.int .i64 k, .int .i64 aa, .int .i64 x.s.a, .int .i64 x.s.b, .int .i64 x.s.c, .int .i64 x.s.d, .int .i64 x.s.e, .int .i64 x.s.f, .int .i64 x.s.g, .int .i64 x.s.h, .int .i64 x.s.r, .int .i64 x.p, .int .i64 x.q] 36))
        replace hS := hS.kept (belowA w4 (.cells #[.int .i64 k, .int .i64 aa, .int .i64 x.s.a, .int .i64 x.s.b, .int .i64 x.s.c, .int .i64 x.s.d, .int .i64 x.s.e, .int .i64 x.s.f, .int .i64 x.s.g, .int .i64 x.s.h, .int .i64 x.s.r, .int .i64 x.p, .int .i64 x.q] 36))
        replace o3 := o3.kept (belowA w4 (.cells #[.int .i64 k, .int .i64 aa, .int .i64 x.s.a, .int .i64 x.s.b, .int .i64 x.s.c, .int .i64 x.s.d, .int .i64 x.s.e, .int .i64 x.s.f, .int .i64 x.s.g, .int .i64 x.s.h, .int .i64 x.s.r, .int .i64 x.p, .int .i64 x.q] 36))
        replace o4 := o4.kept (belowA w4 (.cells #[.int .i64 k, .int .i64 aa, .int .i64 x.s.a, .int .i64 x.s.b, .int .i64 x.s.c, .int .i64 x.s.d, .int .i64 x.s.e, .int .i64 x.s.f, .int .i64 x.s.g, .int .i64 x.s.h, .int .i64 x.s.r, .int .i64 x.p, .int .i64 x.q] 36))
        replace B := thenB B (belowA w4 (.cells #[.int .i64 k, .int .i64 aa, .int .i64 x.s.a, .int .i64 x.s.b, .int .i64 x.s.c, .int .i64 x.s.d, .int .i64 x.s.e, .int .i64 x.s.f, .int .i64 x.s.g, .int .i64 x.s.h, .int .i64 x.s.r, .int .i64 x.p, .int .i64 x.q] 36))
        have VG := V.new w4 [.int .i64 k, .int .i64 aa, .int .i64 x.s.a, .int .i64 x.s.b, .int .i64 x.s.c, .int .i64 x.s.d, .int .i64 x.s.e, .int .i64 x.s.f, .int .i64 x.s.g, .int .i64 x.s.h, .int .i64 x.s.r, .int .i64 x.p, .int .i64 x.q] 36
        clear s_VP f_VP z_VP s_VW f_VW z_VW s_VZ f_VZ z_VZ
        obtain ⟨s_VP, f_VP, z_VP⟩ := VP.open
        obtain ⟨s_VW, f_VW, z_VW⟩ := VW.open
        obtain ⟨s_VZ, f_VZ, z_VZ⟩ := VZ.open
        obtain ⟨s_VG, f_VG, z_VG⟩ := VG.open
        have Bo := B
        go_wp2_with fail
        refine (eqRuleResult_ok k aa x _).mono ?_
        rintro e w5 ⟨rfl, b5⟩
        clear s_VP f_VP z_VP s_VW f_VW z_VW s_VZ f_VZ z_VZ s_VG f_VG z_VG
        have S5 := b5.size
        simp only [World.size_alloc] at S5
        replace VP := VP.kept b5
        replace VW := VW.kept b5
        replace VZ := VZ.kept b5
        replace VG := VG.kept b5
        replace hR := hR.kept b5
        replace hS := hS.kept b5
        replace o3 := o3.kept b5
        replace o4 := o4.kept b5
        replace B := thenB B b5
        clear b5
        obtain ⟨s_VP, f_VP, z_VP⟩ := VP.open
        obtain ⟨s_VW, f_VW, z_VW⟩ := VW.open
        obtain ⟨s_VZ, f_VZ, z_VZ⟩ := VZ.open
        obtain ⟨s_VG, f_VG, z_VG⟩ := VG.open
        have Bo := B
        go_wp2_with fail
        refine (CT.out _ hR).mono ?_
        rintro e w6 ⟨rfl, o5, b6⟩
        clear s_VP f_VP z_VP s_VW f_VW z_VW s_VZ f_VZ z_VZ s_VG f_VG z_VG
        have S6 := b6.size
        replace VP := VP.kept b6
        replace VW := VW.kept b6
        replace VZ := VZ.kept b6
        replace VG := VG.kept b6
        replace hR := hR.kept b6
        replace hS := hS.kept b6
        replace o3 := o3.kept b6
        replace o4 := o4.kept b6
        replace B := thenB B b6
        clear b6
        obtain ⟨s_VP, f_VP, z_VP⟩ := VP.open
        obtain ⟨s_VW, f_VW, z_VW⟩ := VW.open
        obtain ⟨s_VZ, f_VZ, z_VZ⟩ := VZ.open
        obtain ⟨s_VG, f_VG, z_VG⟩ := VG.open
        have Bo := B
        go_wp2_with fail
        refine (CE.out _ _ _ _ _ o3.rd o5.rd).mono ?_
        rintro e w7 ⟨rfl, b7⟩
        clear s_VP f_VP z_VP s_VW f_VW z_VW s_VZ f_VZ z_VZ s_VG f_VG z_VG
        have S7 := b7.size
        replace VP := VP.kept b7
        replace VW := VW.kept b7
        replace VZ := VZ.kept b7
        replace VG := VG.kept b7
        replace hR := hR.kept b7
        replace hS := hS.kept b7
        replace o3 := o3.kept b7
        replace o4 := o4.kept b7
        replace o5 := o5.kept b7
        replace B := thenB B b7
        clear b7
        obtain ⟨s_VP, f_VP, z_VP⟩ := VP.open
        obtain ⟨s_VW, f_VW, z_VW⟩ := VW.open
        obtain ⟨s_VZ, f_VZ, z_VZ⟩ := VZ.open
        obtain ⟨s_VG, f_VG, z_VG⟩ := VG.open
        have Bo := B
        clear s_VP f_VP z_VP s_VW f_VW z_VW s_VZ f_VZ z_VZ s_VG f_VG z_VG
        have K : ∀ w' : World, Below w7.heap.size w7 w' → (w'.cell? ⟨w3.heap.size, 0, none⟩ = some (.int .i64 f) ∧ w'.cell? ⟨w3.heap.size, 1, none⟩ = some (.int .i64 t) ∧ w'.cell? ⟨w3.heap.size, 2, none⟩ = some (.int .i64 r) ∧ w'.cell? ⟨w3.heap.size, 3, none⟩ = some (.int .i64 l) ∧ w'.cell? ⟨w3.heap.size, 4, none⟩ = some (.int .i64 u) ∧ w'.cell? ⟨w3.heap.size, 5, none⟩ = some (.int .i64 v) ∧ w'.cell? ⟨w3.heap.size, 6, none⟩ = some (.slice c2 m d2) ∧ w'.cell? ⟨w.heap.size, 0, none⟩ = some (.int .i64 f) ∧ w'.cell? ⟨w.heap.size, 1, none⟩ = some (.int .i64 t) ∧ w'.cell? ⟨w.heap.size, 2, none⟩ = some (.int .i64 r) ∧ w'.cell? ⟨w.heap.size, 3, none⟩ = some (.int .i64 l) ∧ w'.cell? ⟨w.heap.size, 4, none⟩ = some (.int .i64 u) ∧ w'.cell? ⟨w.heap.size, 5, none⟩ = some (.int .i64 v) ∧ w'.cell? ⟨w.heap.size, 6, none⟩ = some (.slice s m cs)) := fun w' h => ⟨(VZ.kept h).2.1 0 (by simp), (VZ.kept h).2.1 1 (by simp), (VZ.kept h).2.1 2 (by simp), (VZ.kept h).2.1 3 (by simp), (VZ.kept h).2.1 4 (by simp), (VZ.kept h).2.1 5 (by simp), (VZ.kept h).2.1 6 (by simp), (VP.kept h).2.1 0 (by simp), (VP.kept h).2.1 1 (by simp), (VP.kept h).2.1 2 (by simp), (VP.kept h).2.1 3 (by simp), (VP.kept h).2.1 4 (by simp), (VP.kept h).2.1 5 (by simp), (VP.kept h).2.1 6 (by simp)⟩
        have K := Hid.mk K
        go_wp2_with fail
        refine wp_region_held_drew (S := (fun w' => w'.cell? ⟨w3.heap.size, 0, none⟩ = some (.int .i64 f) ∧ w'.cell? ⟨w3.heap.size, 1, none⟩ = some (.int .i64 t) ∧ w'.cell? ⟨w3.heap.size, 2, none⟩ = some (.int .i64 r) ∧ w'.cell? ⟨w3.heap.size, 3, none⟩ = some (.int .i64 l) ∧ w'.cell? ⟨w3.heap.size, 4, none⟩ = some (.int .i64 u) ∧ w'.cell? ⟨w3.heap.size, 5, none⟩ = some (.int .i64 v) ∧ w'.cell? ⟨w3.heap.size, 6, none⟩ = some (.slice c2 m d2) ∧ w'.cell? ⟨w.heap.size, 0, none⟩ = some (.int .i64 f) ∧ w'.cell? ⟨w.heap.size, 1, none⟩ = some (.int .i64 t) ∧ w'.cell? ⟨w.heap.size, 2, none⟩ = some (.int .i64 r) ∧ w'.cell? ⟨w.heap.size, 3, none⟩ = some (.int .i64 l) ∧ w'.cell? ⟨w.heap.size, 4, none⟩ = some (.int .i64 u) ∧ w'.cell? ⟨w.heap.size, 5, none⟩ = some (.int .i64 v) ∧ w'.cell? ⟨w.heap.size, 6, none⟩ = some (.slice s m cs))) (by kernel_rfl) (K.out _ (Below.refl _ _).drew) (fun hHeld => ?_)
        refine wpAnyH_take (i := 0) (oi := _) (v := ?vz2u1) rfl (by kernel_rfl) (by kernel_rfl) (by kernel_rfl) (fun _ _ _ h => h) (Or.inl ⟨by rfl, ?hyz2u1⟩) hHeld ?restz2u1
        case hyz2u1 => (intro w hSw; (try dsimp only at hSw); go_simp; first | done | with_reducible rfl)
        try simp only [Act.put, List.getElem_toArray, List.getElem_cons_zero, List.setIfInBounds_toArray, List.set_cons_zero, List.set_cons_succ]
        refine wpAnyH_take (i := 1) (oi := _) (v := ?vz2u2) rfl (by kernel_rfl) (by kernel_rfl) (by kernel_rfl) (fun _ _ _ h => h) (Or.inl ⟨by rfl, ?hyz2u2⟩) hHeld ?restz2u2
        case hyz2u2 => (intro w hSw; (try dsimp only at hSw); go_simp; first | done | with_reducible rfl)
        try simp only [Act.put, List.getElem_toArray, List.getElem_cons_zero, List.getElem_cons_succ, List.setIfInBounds_toArray, List.set_cons_zero, List.set_cons_succ]
        refine wpAnyH_ready (rs := [2]) (by kernel_rfl) (by simp) ?_
        refine AllReadyH.cons (o := _) rfl (fun K0 hK0 => ?_) AllReadyH.nil
        go_simp
        go_at_call 32
        refine (CP.out _ (hS.kept (Below.refl _ _).drew)).mono ?_
        rintro e wz2v3 ⟨c3, d3, rfl, o6, bz2v3⟩
        refine hK0.out _ _ (K.out _ (thenB (Below.refl _ _).drew bz2v3)) (fun hHeld => ?_)
        clear hK0 K0
        try simp only [Act.put, List.getElem_toArray, List.getElem_cons_zero, List.getElem_cons_succ, List.setIfInBounds_toArray, List.set_cons_zero, List.set_cons_succ]
        refine wpAnyH_ready (rs := [3]) (by kernel_rfl) (by simp) ?_
        refine AllReadyH.cons (o := _) rfl (fun K0 hK0 => ?_) AllReadyH.nil
        go_simp
        go_at_call 34
        refine (CQ.out _ _ _ _ _ (o4.kept (thenB (Below.refl _ _).drew bz2v3)).rd o6.rd).mono ?_
        rintro e wz2v4 ⟨rfl, bz2v4⟩
        refine hK0.out _ _ (K.out _ (thenB (thenB (Below.refl _ _).drew bz2v3) bz2v4)) (fun hHeld => ?_)
        clear hK0 K0
        try simp only [Act.put, List.getElem_toArray, List.getElem_cons_zero, List.getElem_cons_succ, List.setIfInBounds_toArray, List.set_cons_zero, List.set_cons_succ]
        refine wpAnyH_take (i := 4) (oi := _) (v := ?vz2u5) rfl (by kernel_rfl) (by kernel_rfl) (by kernel_rfl) (fun _ _ _ h => h) (Or.inl ⟨by rfl, ?hyz2u5⟩) hHeld ?restz2u5
        case hyz2u5 => (intro w hSw; (try dsimp only at hSw); go_simp; first | done | with_reducible rfl)
        try simp only [Act.put, List.getElem_toArray, List.getElem_cons_zero, List.getElem_cons_succ, List.setIfInBounds_toArray, List.set_cons_zero, List.set_cons_succ]
        refine wpAnyH_done (by kernel_rfl) ?_ _
        clear K hHeld
        replace VP := VP.kept (thenB (thenB (Below.refl _ _).drew bz2v3) bz2v4)
        replace VW := VW.kept (thenB (thenB (Below.refl _ _).drew bz2v3) bz2v4)
        replace VZ := VZ.kept (thenB (thenB (Below.refl _ _).drew bz2v3) bz2v4)
        replace VG := VG.kept (thenB (thenB (Below.refl _ _).drew bz2v3) bz2v4)
        replace hR := hR.kept (thenB (thenB (Below.refl _ _).drew bz2v3) bz2v4)
        replace hS := hS.kept (thenB (thenB (Below.refl _ _).drew bz2v3) bz2v4)
        replace o3 := o3.kept (thenB (thenB (Below.refl _ _).drew bz2v3) bz2v4)
        replace o4 := o4.kept (thenB (thenB (Below.refl _ _).drew bz2v3) bz2v4)
        replace o5 := o5.kept (thenB (thenB (Below.refl _ _).drew bz2v3) bz2v4)
        replace B := thenB B (thenB (thenB (Below.refl _ _).drew bz2v3) bz2v4)
        replace o6 := o6.kept bz2v4
        have Sz2 := ((thenB (thenB (Below.refl _ _).drew bz2v3) bz2v4)).size
        clear bz2v3 bz2v4
        obtain ⟨s_VP, f_VP, z_VP⟩ := VP.open
        obtain ⟨s_VW, f_VW, z_VW⟩ := VW.open
        obtain ⟨s_VZ, f_VZ, z_VZ⟩ := VZ.open
        obtain ⟨s_VG, f_VG, z_VG⟩ := VG.open
        have Bo := B
        go_wp2
        go_ret
        exact ⟨rfl, Bo⟩
    · have hlt : 1048576 - (n : Int) < (m : Int) := by omega
      have VP := V.new w [.int .i64 f, .int .i64 t, .int .i64 r, .int .i64 l, .int .i64 u, .int .i64 v, .slice s m cs] 62
      obtain ⟨s_VP, f_VP, z_VP⟩ := VP.open
      go_enter Tryd.func6, Tryd.ntmps6
      go_wp2_with fail
      refine (szRuleS_in a n ca 1048576 _ hbig (by omega)).mono ?_
      rintro e wq ⟨rfl, rfl⟩
      go_wp2_with fail
      refine (szPacket_out f t r l u v s m cs (1048576 - (n : Int)) _ hlt (by omega) (by omega) hy').mono ?_
      rintro e w1 ⟨rfl, b1⟩
      go_wp2
      go_ret
      exact ⟨rfl, thenB (belowA w _) b1⟩
  · have hlt : 1048576 < (n : Int) := by omega
    go_enter Tryd.func6, Tryd.ntmps6
    go_wp2_with fail
    refine (szRuleS_out a n ca 1048576 _ hlt (by omega) (by omega) hx').mono ?_
    rintro e wq ⟨rfl, rfl⟩
    go_wp2
    go_ret
    exact ⟨rfl, belowA w _⟩

end Go.Proofs.YtngkahchhioncaaDoor
