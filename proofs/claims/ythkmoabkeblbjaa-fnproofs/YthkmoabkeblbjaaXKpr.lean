/- The law FnProofs: its walk. -/
import Derived.Test.YthkmoabkeblbjaaKzS
import Derived.Test.YthkmoabkeblbjaaKzL
import Derived.Test.YthkmoabkeblbjaaMe
import Derived.Test.YthkmoabkeblbjaaKzM
namespace Go.Proofs.Ythkmoabkeblbjaa
open Go.RowKit

theorem extractP0 (u v x y z t : Value) (w : World) : (Instr.extract (.tuple #[u, v, x, y, z, t]) 0).run Try.prog w = .ok u w := by kernel_rfl
theorem extractP1 (u v x y z t : Value) (w : World) : (Instr.extract (.tuple #[u, v, x, y, z, t]) 1).run Try.prog w = .ok v w := by kernel_rfl
theorem extractP2 (u v x y z t : Value) (w : World) : (Instr.extract (.tuple #[u, v, x, y, z, t]) 2).run Try.prog w = .ok x w := by kernel_rfl
theorem extractP3 (u v x y z t : Value) (w : World) : (Instr.extract (.tuple #[u, v, x, y, z, t]) 3).run Try.prog w = .ok y w := by kernel_rfl
theorem extractP4 (u v x y z t : Value) (w : World) : (Instr.extract (.tuple #[u, v, x, y, z, t]) 4).run Try.prog w = .ok z w := by kernel_rfl
theorem extractP5 (u v x y z t : Value) (w : World) : (Instr.extract (.tuple #[u, v, x, y, z, t]) 5).run Try.prog w = .ok t w := by kernel_rfl

theorem beq_iffI {a b c d : Int} (h : a = b ↔ c = d) : (a == b) = (c == d) := by
  by_cases e : c = d
  · have := h.2 e; subst this e; simp
  · have h2 : ¬ a = b := fun k => e (h.1 k)
    rw [beq_eq_false_iff_ne.2 e, beq_eq_false_iff_ne.2 h2]

set_option maxRecDepth 20000 in
set_option maxHeartbeats 8000000 in
theorem xKpr_walk (a : Option Addr) (n ca : Nat) (zs : List Int) (w : World) (ha : Rd .u8 w a zs) (hb : Bytes zs) (hn : zs.length = n) :
    Calls Try.prog 4 #[.slice a n ca] w fun e w' => e = .returned (.bool true) ∧ Below w.heap.size w w' := by
  by_cases hbig : 1048576 < n
  · have h1 : (1048576 : Int) < (n : Int) := by omega
    go_enter Try.func4, Try.ntmps4
    go_wp2_with (first | (go_at_call 13; go_in) | fail)
    go_ret
    exact ⟨rfl, Below.refl _ _⟩
  have h1 : ¬ (1048576 : Int) < (n : Int) := by omega
  have CD := Hid.mk (drawMakeProof_ok a n ca zs w ha hb hn (by omega))
  clear ha hb hn hbig
  go_enter Try.func4, Try.ntmps4
  go_wp2_with (first | (go_at_call 13; go_in) | fail)
  refine CD.out.mono ?_
  rintro e wA ⟨c, d, m, xs, v1, v2, v3, v4, v5, rfl, ⟨hlen, hm, hcap, hnc, hok⟩, ⟨_, _, _, _, hv5, hv6⟩, RX, B0⟩
  have e0 := extractP0
  have e1 := extractP1
  have e2 := extractP2
  have e3 := extractP3
  have e4 := extractP4
  have e5 := extractP5
  have CI := Hid.mk (fun w h => implMakeProof_ok c m d xs v1 v2 v3 v4 v5 w h hlen (by omega) hok)
  have CS := Hid.mk (fun w h => specMakeProof_ok c m d xs v1 v2 v3 v4 v5 w h hlen (by omega) hcap hnc)
  have HB0 := Hid.mk B0
  have HR := Hid.mk RX
  clear B0 CD RX hcap hnc hlen hok
  have B := Below.refl wA.heap.size wA
  by_cases h3 : (mpR xs v1 v2 v3 v4 v5).c = 0
  rotate_left
  · skip
    generalize mpR xs v1 v2 v3 v4 v5 = P at *
    obtain ⟨kc, kk, ls⟩ := P
    simp only at *
    obtain ⟨kl, hkl⟩ : ∃ kl, ls.length = kl := ⟨_, rfl⟩
    rw [hkl] at CI CS
    have qf : ∀ (c : Option Addr) (d : Nat) (w : World), (Instr.field 33 (.agg #[.int .i64 kc, .int .i64 kk, .slice c kl d]) 0).run Try.prog w = .ok (.int .i64 kc) w := fun c d w => by kernel_rfl
    have h3' : (kc != 0) = true := by simp [h3]
    have h4' : (kc == kc) = true := by simp
    clear h3 hkl
    go_wp2_with fail
    refine (CI.out _ (HR.out.kept B)).mono ?_
    rintro e w1 ⟨c1, d1, rfl, O1, b1⟩
    have S1 := b1.size
    replace B := thenB B b1
    clear b1
    have Bo := B
    replace O1 := O1.kept (belowA w1 (.cells #[.int .i64 kc, .int .i64 kk, .slice c1 kl d1] 33))
    replace B := thenB B (belowA w1 (.cells #[.int .i64 kc, .int .i64 kk, .slice c1 kl d1] 33))
    have VR := V.new w1 [.int .i64 kc, .int .i64 kk, .slice c1 kl d1] 33
    obtain ⟨s_VR, f_VR, z_VR⟩ := VR.open
    have Bo := B
    go_upto_region 6 with fail
    clear s_VR f_VR z_VR
    have K : ∀ w' : World, Below (w1.alloc (.cells #[.int .i64 kc, .int .i64 kk, .slice c1 kl d1] 33)).heap.size (w1.alloc (.cells #[.int .i64 kc, .int .i64 kk, .slice c1 kl d1] 33)) w' → (w'.cell? ⟨w1.heap.size, 0, none⟩ = some (.int .i64 kc) ∧ w'.cell? ⟨w1.heap.size, 1, none⟩ = some (.int .i64 kk) ∧ w'.cell? ⟨w1.heap.size, 2, none⟩ = some (.slice c1 kl d1)) := fun w' h => ⟨(VR.kept h).2.1 0 (by simp), (VR.kept h).2.1 1 (by simp), (VR.kept h).2.1 2 (by simp)⟩
    have K := Hid.mk K
    refine wp_region_held_drew (S := (fun w' => w'.cell? ⟨w1.heap.size, 0, none⟩ = some (.int .i64 kc) ∧ w'.cell? ⟨w1.heap.size, 1, none⟩ = some (.int .i64 kk) ∧ w'.cell? ⟨w1.heap.size, 2, none⟩ = some (.slice c1 kl d1))) (by kernel_rfl) (K.out _ (Below.refl _ _).drew) (fun hHeld => ?_)
    refine wpAnyH_take (i := 0) (oi := _) (v := ?vz1u1) rfl (by kernel_rfl) (by kernel_rfl) (by kernel_rfl) (fun _ _ _ h => h) (Or.inl ⟨by kernel_rfl, ?hyz1u1⟩) hHeld ?restz1u1
    case hyz1u1 => (intro w hSw; (try dsimp only at hSw); go_simp; first | done | with_reducible rfl)
    try simp only [Act.put, List.getElem_toArray, List.getElem_cons_zero, List.setIfInBounds_toArray, List.set_cons_zero, List.set_cons_succ]
    refine wpAnyH_take (i := 1) (oi := _) (v := ?vz1u2) rfl (by kernel_rfl) (by kernel_rfl) (by kernel_rfl) (fun _ _ _ h => h) (Or.inl ⟨by kernel_rfl, ?hyz1u2⟩) hHeld ?restz1u2
    case hyz1u2 => (intro w hSw; (try dsimp only at hSw); go_simp; first | done | with_reducible rfl)
    try simp only [Act.put, List.getElem_toArray, List.getElem_cons_zero, List.getElem_cons_succ, List.setIfInBounds_toArray, List.set_cons_zero, List.set_cons_succ]
    refine wpAnyH_take (i := 2) (oi := _) (v := ?vz1u3) rfl (by kernel_rfl) (by kernel_rfl) (by kernel_rfl) (fun _ _ _ h => h) (Or.inl ⟨by kernel_rfl, ?hyz1u3⟩) hHeld ?restz1u3
    case hyz1u3 => (intro w hSw; (try dsimp only at hSw); go_simp; first | done | with_reducible rfl)
    try simp only [Act.put, List.getElem_toArray, List.getElem_cons_zero, List.getElem_cons_succ, List.setIfInBounds_toArray, List.set_cons_zero, List.set_cons_succ]
    refine wpAnyH_take (i := 3) (oi := _) (v := ?vz1u4) rfl (by kernel_rfl) (by kernel_rfl) (by kernel_rfl) (fun _ _ _ h => h) (Or.inl ⟨by kernel_rfl, ?hyz1u4⟩) hHeld ?restz1u4
    case hyz1u4 => (intro w hSw; (try dsimp only at hSw); go_simp; first | done | with_reducible rfl)
    try simp only [Act.put, List.getElem_toArray, List.getElem_cons_zero, List.getElem_cons_succ, List.setIfInBounds_toArray, List.set_cons_zero, List.set_cons_succ]
    refine wpAnyH_take (i := 4) (oi := _) (v := ?vz1u5) rfl (by kernel_rfl) (by kernel_rfl) (by kernel_rfl) (fun _ _ _ h => h) (Or.inl ⟨by kernel_rfl, ?hyz1u5⟩) hHeld ?restz1u5
    case hyz1u5 => (intro w hSw; (try dsimp only at hSw); go_simp; first | done | with_reducible rfl)
    try simp only [Act.put, List.getElem_toArray, List.getElem_cons_zero, List.getElem_cons_succ, List.setIfInBounds_toArray, List.set_cons_zero, List.set_cons_succ]
    refine wpAnyH_take (i := 5) (oi := _) (v := ?vz1u6) rfl (by kernel_rfl) (by kernel_rfl) (by kernel_rfl) (fun _ _ _ h => h) (Or.inl ⟨by kernel_rfl, ?hyz1u6⟩) hHeld ?restz1u6
    case hyz1u6 => (intro w hSw; (try dsimp only at hSw); go_simp; first | done | with_reducible rfl)
    try simp only [Act.put, List.getElem_toArray, List.getElem_cons_zero, List.getElem_cons_succ, List.setIfInBounds_toArray, List.set_cons_zero, List.set_cons_succ]
    refine wpAnyH_take (i := 8) (oi := _) (v := ?vz1u7) rfl (by kernel_rfl) (by kernel_rfl) (by kernel_rfl) (fun _ _ _ h => h) (Or.inl ⟨by kernel_rfl, ?hyz1u7⟩) hHeld ?restz1u7
    case hyz1u7 => (intro w hSw; (try dsimp only at hSw); go_simp; first | done | with_reducible rfl)
    try simp only [Act.put, List.getElem_toArray, List.getElem_cons_zero, List.getElem_cons_succ, List.setIfInBounds_toArray, List.set_cons_zero, List.set_cons_succ]
    refine wpAnyH_take (i := 9) (oi := _) (v := ?vz1u8) rfl (by kernel_rfl) (by kernel_rfl) (by kernel_rfl) (fun _ _ _ h => h) (Or.inl ⟨by kernel_rfl, ?hyz1u8⟩) hHeld ?restz1u8
    case hyz1u8 => (intro w hSw; (try dsimp only at hSw); go_simp; first | done | with_reducible rfl)
    try simp only [Act.put, List.getElem_toArray, List.getElem_cons_zero, List.getElem_cons_succ, List.setIfInBounds_toArray, List.set_cons_zero, List.set_cons_succ]
    refine wpAnyH_ready (rs := [6]) (by kernel_rfl) (by simp) ?_
    refine AllReadyH.cons (o := _) rfl (fun K0 hK0 => ?_) AllReadyH.nil
    go_simp
    go_at_call 26
    refine (CS.out _ ((HR.out.kept B).kept (Below.refl _ _).drew)).mono ?_
    rintro e wz1v9 ⟨c2, d2, rfl, _, bz1v9⟩
    refine hK0.out _ _ (K.out _ (thenB (Below.refl _ _).drew bz1v9)) (fun hHeld => ?_)
    clear hK0 K0
    try simp only [Act.put, List.getElem_toArray, List.getElem_cons_zero, List.getElem_cons_succ, List.setIfInBounds_toArray, List.set_cons_zero, List.set_cons_succ]
    refine wpAnyH_take (i := 7) (oi := _) (v := ?vz1u10) rfl (by kernel_rfl) (by kernel_rfl) (by kernel_rfl) (fun _ _ _ h => h) (Or.inl ⟨by kernel_rfl, ?hyz1u10⟩) hHeld ?restz1u10
    case hyz1u10 => (intro w hSw; (try dsimp only at hSw); go_simp; first | done | with_reducible rfl)
    try simp only [Act.put, List.getElem_toArray, List.getElem_cons_zero, List.getElem_cons_succ, List.setIfInBounds_toArray, List.set_cons_zero, List.set_cons_succ]
    refine wpAnyH_take (i := 10) (oi := _) (v := ?vz1u11) rfl (by kernel_rfl) (by kernel_rfl) (by kernel_rfl) (fun _ _ _ h => h) (Or.inl ⟨by kernel_rfl, ?hyz1u11⟩) hHeld ?restz1u11
    case hyz1u11 => (intro w hSw; (try dsimp only at hSw); go_simp; first | done | with_reducible rfl)
    try simp only [Act.put, List.getElem_toArray, List.getElem_cons_zero, List.getElem_cons_succ, List.setIfInBounds_toArray, List.set_cons_zero, List.set_cons_succ]
    refine wpAnyH_take (i := 11) (oi := _) (v := ?vz1u12) rfl (by kernel_rfl) (by kernel_rfl) (by kernel_rfl) (fun _ _ _ h => h) (Or.inl ⟨by kernel_rfl, ?hyz1u12⟩) hHeld ?restz1u12
    case hyz1u12 => (intro w hSw; (try dsimp only at hSw); go_simp; first | done | with_reducible rfl)
    try simp only [Act.put, List.getElem_toArray, List.getElem_cons_zero, List.getElem_cons_succ, List.setIfInBounds_toArray, List.set_cons_zero, List.set_cons_succ]
    refine wpAnyH_done (by kernel_rfl) ?_ _
    clear K hHeld
    have bacc : Below (w1.alloc (.cells #[.int .i64 kc, .int .i64 kk, .slice c1 kl d1] 33)).heap.size (w1.alloc (.cells #[.int .i64 kc, .int .i64 kk, .slice c1 kl d1] 33)) wz1v9 := (thenB (Below.refl _ _).drew bz1v9)
    replace VR := VR.kept bacc
    replace O1 := O1.kept bacc
    replace B := thenB B bacc
    have Sz1 := (bacc).size
    clear bacc
    simp only [World.size_alloc] at Sz1
    clear bz1v9
    obtain ⟨s_VR, f_VR, z_VR⟩ := VR.open
    have Bo := B
    go_wp2
    go_ret
    exact ⟨rfl, HB0.out.trans (B.mono HB0.out.size)⟩
  · obtain ⟨_, hid, hz, _, _⟩ := mp_made h3
    obtain ⟨hi0, hi1⟩ := btw_iff.1 hid
    have hag := proofs_again h3
    have HOT := fun id' => proofs_other (id' := id') h3
    have HTU := proofs_turned h3
    clear CS
    generalize mpR xs v1 v2 v3 v4 v5 = P at *
    obtain ⟨kc, kk, ls⟩ := P
    simp only at *
    obtain ⟨kl, hkl⟩ : ∃ kl, ls.length = kl := ⟨_, rfl⟩
    rw [hkl] at CI
    subst h3
    have hl4 := (tfC_zero hz).1
    have hro := right_ok hz
    have CA := Hid.mk (fun c d w h => implMakeProof_ok c kl d ls v1 v2 v3 v4 v5 w h hkl (by omega) hro)
    rw [hag] at CA
    simp only at CA
    rw [hkl] at CA
    have hwr : IntKind.i64.wrap (v5 + 1) = v5 + 1 := by rw [IntKind.wrap_i64]; omega
    obtain ⟨id2, hid2⟩ : ∃ q : Int, Int.tmod (v5 + 1) 9999 = q := ⟨_, rfl⟩
    have CO := Hid.mk (fun c d w h => implMakeProof_ok c kl d ls v1 v2 v3 v4 id2 w h hkl (by omega) hro)
    have CT := Hid.mk (fun c d w h => implMakeProof_ok c kl d ls v1 v3 v2 v4 v5 w h hkl (by omega) hro)
    have SO := Hid.mk (fun c d w h hd hc => specMakeProof_ok c kl d ls v1 v2 v3 v4 id2 w h hkl (by omega) hd hc)
    have ST := Hid.mk (fun c d w h hd hc => specMakeProof_ok c kl d ls v1 v3 v2 v4 v5 w h hkl (by omega) hd hc)
    replace HOT := HOT id2
    clear hag hro hid hz hl4 hv5 hv6
    generalize mpR ls v1 v2 v3 v4 id2 = P2 at *
    obtain ⟨kc2, kk2, ls2⟩ := P2
    simp only at *
    obtain ⟨kl2, hkl2⟩ : ∃ kl, ls2.length = kl := ⟨_, rfl⟩
    rw [hkl2] at CO SO
    generalize mpR ls v1 v3 v2 v4 v5 = P3 at *
    obtain ⟨kc3, kk3, ls3⟩ := P3
    simp only at *
    obtain ⟨kl3, hkl3⟩ : ∃ kl, ls3.length = kl := ⟨_, rfl⟩
    rw [hkl3] at CT ST
    have qf2 : ∀ (c : Option Addr) (d : Nat) (w : World), (Instr.field 33 (.agg #[.int .i64 kc2, .int .i64 kk2, .slice c kl2 d]) 0).run Try.prog w = .ok (.int .i64 kc2) w := fun c d w => by kernel_rfl
    have qf3 : ∀ (c : Option Addr) (d : Nat) (w : World), (Instr.field 33 (.agg #[.int .i64 kc3, .int .i64 kk3, .slice c kl3 d]) 0).run Try.prog w = .ok (.int .i64 kc3) w := fun c d w => by kernel_rfl
    have hk2 : (kc2 == kc2) = true := by simp
    have hk3 : (kc3 == kc3) = true := by simp
    have hkk : (kk != kk) = false := by simp
    have hll : ((kl : Int) != (kl : Int)) = false := by simp
    have HWY : ((kc2 != 0) = true) ∨ (kc2 = 0 ∧ (kc3 != 0) = true) ∨ (kc2 = 0 ∧ kc3 = 0 ∧ (kk2 == kk) = (id2 == v5) ∧ (kk3 == kk) = (v2 == v3)) := by
      by_cases h2 : kc2 = 0
      · by_cases h3 : kc3 = 0
        · exact .inr (.inr ⟨h2, h3, beq_iffI (HOT h2), beq_iffI (HTU h3)⟩)
        · exact .inr (.inl ⟨h2, by simp [h3]⟩)
      · exact .inl (by simp [h2])
    have HKL := Hid.mk hkl
    clear HOT HTU hkl hkl2 hkl3
    rcases HWY with h2 | ⟨h2, h3⟩ | ⟨h2, h3, b2, b3⟩
    · skip
      go_wp2_with fail
      refine (CI.out _ (HR.out.kept B)).mono ?_
      rintro e w61 ⟨c1, d1, rfl, O1, b61⟩
      have S61 := b61.size
      replace B := thenB B b61
      clear b61
      have Bo := B
      replace O1 := O1.kept (belowA w61 (.cells #[.int .i64 0, .int .i64 kk, .slice c1 kl d1] 33))
      replace B := thenB B (belowA w61 (.cells #[.int .i64 0, .int .i64 kk, .slice c1 kl d1] 33))
      have VR := V.new w61 [.int .i64 0, .int .i64 kk, .slice c1 kl d1] 33
      obtain ⟨s_VR, f_VR, z_VR⟩ := VR.open
      have Bo := B
      have HO := Hid.mk O1.rd
      go_wp2_with fail
      refine (CA.out _ _ _ O1.rd).mono ?_
      rintro e w62 ⟨c2, d2, rfl, O2, b62⟩
      clear s_VR f_VR z_VR
      have S62 := b62.size
      simp only [World.size_alloc] at S62
      replace VR := VR.kept b62
      replace O1 := O1.kept b62
      replace B := thenB B b62
      clear b62
      obtain ⟨s_VR, f_VR, z_VR⟩ := VR.open
      have Bo := B
      clear O2
      replace VR := VR.kept (belowA w62 (.cells #[.int .i64 0, .int .i64 kk, .slice c2 kl d2] 33))
      replace O1 := O1.kept (belowA w62 (.cells #[.int .i64 0, .int .i64 kk, .slice c2 kl d2] 33))
      replace B := thenB B (belowA w62 (.cells #[.int .i64 0, .int .i64 kk, .slice c2 kl d2] 33))
      have VA := V.new w62 [.int .i64 0, .int .i64 kk, .slice c2 kl d2] 33
      clear s_VR f_VR z_VR
      obtain ⟨s_VR, f_VR, z_VR⟩ := VR.open
      obtain ⟨s_VA, f_VA, z_VA⟩ := VA.open
      replace Bo := B
      go_wp2_with fail
      refine (CO.out _ _ _ O1.rd).mono ?_
      rintro e w63 ⟨c3, d3, rfl, O3, b63⟩
      clear s_VR f_VR z_VR s_VA f_VA z_VA
      have S63 := b63.size
      simp only [World.size_alloc] at S63
      replace VR := VR.kept b63
      replace VA := VA.kept b63
      replace O1 := O1.kept b63
      replace B := thenB B b63
      clear b63
      obtain ⟨s_VR, f_VR, z_VR⟩ := VR.open
      obtain ⟨s_VA, f_VA, z_VA⟩ := VA.open
      have Bo := B
      clear O3
      replace VR := VR.kept (belowA w63 (.cells #[.int .i64 kc2, .int .i64 kk2, .slice c3 kl2 d3] 33))
      replace VA := VA.kept (belowA w63 (.cells #[.int .i64 kc2, .int .i64 kk2, .slice c3 kl2 d3] 33))
      replace O1 := O1.kept (belowA w63 (.cells #[.int .i64 kc2, .int .i64 kk2, .slice c3 kl2 d3] 33))
      replace B := thenB B (belowA w63 (.cells #[.int .i64 kc2, .int .i64 kk2, .slice c3 kl2 d3] 33))
      have VO := V.new w63 [.int .i64 kc2, .int .i64 kk2, .slice c3 kl2 d3] 33
      clear s_VR f_VR z_VR s_VA f_VA z_VA
      obtain ⟨s_VR, f_VR, z_VR⟩ := VR.open
      obtain ⟨s_VA, f_VA, z_VA⟩ := VA.open
      obtain ⟨s_VO, f_VO, z_VO⟩ := VO.open
      replace Bo := B
      go_wp2_with fail
      refine (CT.out _ _ _ O1.rd).mono ?_
      rintro e w64 ⟨c4, d4, rfl, O4, b64⟩
      clear s_VR f_VR z_VR s_VA f_VA z_VA s_VO f_VO z_VO
      have S64 := b64.size
      simp only [World.size_alloc] at S64
      replace VR := VR.kept b64
      replace VA := VA.kept b64
      replace VO := VO.kept b64
      replace O1 := O1.kept b64
      replace B := thenB B b64
      clear b64
      obtain ⟨s_VR, f_VR, z_VR⟩ := VR.open
      obtain ⟨s_VA, f_VA, z_VA⟩ := VA.open
      obtain ⟨s_VO, f_VO, z_VO⟩ := VO.open
      have Bo := B
      clear O4
      replace VR := VR.kept (belowA w64 (.cells #[.int .i64 kc3, .int .i64 kk3, .slice c4 kl3 d4] 33))
      replace VA := VA.kept (belowA w64 (.cells #[.int .i64 kc3, .int .i64 kk3, .slice c4 kl3 d4] 33))
      replace VO := VO.kept (belowA w64 (.cells #[.int .i64 kc3, .int .i64 kk3, .slice c4 kl3 d4] 33))
      replace O1 := O1.kept (belowA w64 (.cells #[.int .i64 kc3, .int .i64 kk3, .slice c4 kl3 d4] 33))
      replace B := thenB B (belowA w64 (.cells #[.int .i64 kc3, .int .i64 kk3, .slice c4 kl3 d4] 33))
      have VT := V.new w64 [.int .i64 kc3, .int .i64 kk3, .slice c4 kl3 d4] 33
      clear s_VR f_VR z_VR s_VA f_VA z_VA s_VO f_VO z_VO
      obtain ⟨s_VR, f_VR, z_VR⟩ := VR.open
      obtain ⟨s_VA, f_VA, z_VA⟩ := VA.open
      obtain ⟨s_VO, f_VO, z_VO⟩ := VO.open
      obtain ⟨s_VT, f_VT, z_VT⟩ := VT.open
      replace Bo := B
      have hcp := O1.cap
      rw [HKL.out] at hcp
      have hnc := ownTerm_nocap O1
      have HOR := Hid.mk O1.rd
      go_upto_region 13 with fail
      clear s_VR f_VR z_VR s_VA f_VA z_VA s_VO f_VO z_VO s_VT f_VT z_VT
      have K : ∀ w' : World, Below (w64.alloc (.cells #[.int .i64 kc3, .int .i64 kk3, .slice c4 kl3 d4] 33)).heap.size (w64.alloc (.cells #[.int .i64 kc3, .int .i64 kk3, .slice c4 kl3 d4] 33)) w' → (w'.cell? ⟨w61.heap.size, 0, none⟩ = some (.int .i64 0) ∧ w'.cell? ⟨w61.heap.size, 1, none⟩ = some (.int .i64 kk) ∧ w'.cell? ⟨w61.heap.size, 2, none⟩ = some (.slice c1 kl d1) ∧ w'.cell? ⟨w63.heap.size, 0, none⟩ = some (.int .i64 kc2) ∧ w'.cell? ⟨w63.heap.size, 1, none⟩ = some (.int .i64 kk2) ∧ w'.cell? ⟨w63.heap.size, 2, none⟩ = some (.slice c3 kl2 d3) ∧ w'.cell? ⟨w64.heap.size, 0, none⟩ = some (.int .i64 kc3) ∧ w'.cell? ⟨w64.heap.size, 1, none⟩ = some (.int .i64 kk3) ∧ w'.cell? ⟨w64.heap.size, 2, none⟩ = some (.slice c4 kl3 d4)) := fun w' h => ⟨(VR.kept h).2.1 0 (by simp), (VR.kept h).2.1 1 (by simp), (VR.kept h).2.1 2 (by simp), (VO.kept h).2.1 0 (by simp), (VO.kept h).2.1 1 (by simp), (VO.kept h).2.1 2 (by simp), (VT.kept h).2.1 0 (by simp), (VT.kept h).2.1 1 (by simp), (VT.kept h).2.1 2 (by simp)⟩
      have K := Hid.mk K
      refine wp_region_held_drew (S := (fun w' => w'.cell? ⟨w61.heap.size, 0, none⟩ = some (.int .i64 0) ∧ w'.cell? ⟨w61.heap.size, 1, none⟩ = some (.int .i64 kk) ∧ w'.cell? ⟨w61.heap.size, 2, none⟩ = some (.slice c1 kl d1) ∧ w'.cell? ⟨w63.heap.size, 0, none⟩ = some (.int .i64 kc2) ∧ w'.cell? ⟨w63.heap.size, 1, none⟩ = some (.int .i64 kk2) ∧ w'.cell? ⟨w63.heap.size, 2, none⟩ = some (.slice c3 kl2 d3) ∧ w'.cell? ⟨w64.heap.size, 0, none⟩ = some (.int .i64 kc3) ∧ w'.cell? ⟨w64.heap.size, 1, none⟩ = some (.int .i64 kk3) ∧ w'.cell? ⟨w64.heap.size, 2, none⟩ = some (.slice c4 kl3 d4))) (by kernel_rfl) (K.out _ (Below.refl _ _).drew) (fun hHeld => ?_)
      refine wpAnyH_take (i := 0) (oi := _) (v := ?vz61u1) rfl (by kernel_rfl) (by kernel_rfl) (by kernel_rfl) (fun _ _ _ h => h) (Or.inl ⟨by kernel_rfl, ?hyz61u1⟩) hHeld ?restz61u1
      case hyz61u1 => (intro w hSw; (try dsimp only at hSw); go_simp; first | done | with_reducible rfl)
      try simp only [Act.put, List.getElem_toArray, List.getElem_cons_zero, List.setIfInBounds_toArray, List.set_cons_zero, List.set_cons_succ]
      refine wpAnyH_take (i := 1) (oi := _) (v := ?vz61u2) rfl (by kernel_rfl) (by kernel_rfl) (by kernel_rfl) (fun _ _ _ h => h) (Or.inl ⟨by kernel_rfl, ?hyz61u2⟩) hHeld ?restz61u2
      case hyz61u2 => (intro w hSw; (try dsimp only at hSw); go_simp; first | done | with_reducible rfl)
      try simp only [Act.put, List.getElem_toArray, List.getElem_cons_zero, List.getElem_cons_succ, List.setIfInBounds_toArray, List.set_cons_zero, List.set_cons_succ]
      refine wpAnyH_take (i := 2) (oi := _) (v := ?vz61u3) rfl (by kernel_rfl) (by kernel_rfl) (by kernel_rfl) (fun _ _ _ h => h) (Or.inl ⟨by kernel_rfl, ?hyz61u3⟩) hHeld ?restz61u3
      case hyz61u3 => (intro w hSw; (try dsimp only at hSw); go_simp; first | done | with_reducible rfl)
      try simp only [Act.put, List.getElem_toArray, List.getElem_cons_zero, List.getElem_cons_succ, List.setIfInBounds_toArray, List.set_cons_zero, List.set_cons_succ]
      refine wpAnyH_take (i := 3) (oi := _) (v := ?vz61u4) rfl (by kernel_rfl) (by kernel_rfl) (by kernel_rfl) (fun _ _ _ h => h) (Or.inl ⟨by kernel_rfl, ?hyz61u4⟩) hHeld ?restz61u4
      case hyz61u4 => (intro w hSw; (try dsimp only at hSw); go_simp; first | done | with_reducible rfl)
      try simp only [Act.put, List.getElem_toArray, List.getElem_cons_zero, List.getElem_cons_succ, List.setIfInBounds_toArray, List.set_cons_zero, List.set_cons_succ]
      refine wpAnyH_take (i := 4) (oi := _) (v := ?vz61u5) rfl (by kernel_rfl) (by kernel_rfl) (by kernel_rfl) (fun _ _ _ h => h) (Or.inl ⟨by kernel_rfl, ?hyz61u5⟩) hHeld ?restz61u5
      case hyz61u5 => (intro w hSw; (try dsimp only at hSw); go_simp; first | done | with_reducible rfl)
      try simp only [Act.put, List.getElem_toArray, List.getElem_cons_zero, List.getElem_cons_succ, List.setIfInBounds_toArray, List.set_cons_zero, List.set_cons_succ]
      refine wpAnyH_take (i := 5) (oi := _) (v := ?vz61u6) rfl (by kernel_rfl) (by kernel_rfl) (by kernel_rfl) (fun _ _ _ h => h) (Or.inl ⟨by kernel_rfl, ?hyz61u6⟩) hHeld ?restz61u6
      case hyz61u6 => (intro w hSw; (try dsimp only at hSw); go_simp; first | done | with_reducible rfl)
      try simp only [Act.put, List.getElem_toArray, List.getElem_cons_zero, List.getElem_cons_succ, List.setIfInBounds_toArray, List.set_cons_zero, List.set_cons_succ]
      refine wpAnyH_take (i := 6) (oi := _) (v := ?vz61u7) rfl (by kernel_rfl) (by kernel_rfl) (by kernel_rfl) (fun _ _ _ h => h) (Or.inl ⟨by kernel_rfl, ?hyz61u7⟩) hHeld ?restz61u7
      case hyz61u7 => (intro w hSw; (try dsimp only at hSw); go_simp; first | done | with_reducible rfl)
      try simp only [Act.put, List.getElem_toArray, List.getElem_cons_zero, List.getElem_cons_succ, List.setIfInBounds_toArray, List.set_cons_zero, List.set_cons_succ]
      refine wpAnyH_take (i := 7) (oi := _) (v := ?vz61u8) rfl (by kernel_rfl) (by kernel_rfl) (by kernel_rfl) (fun _ _ _ h => h) (Or.inl ⟨by kernel_rfl, ?hyz61u8⟩) hHeld ?restz61u8
      case hyz61u8 => (intro w hSw; (try dsimp only at hSw); go_simp; first | done | with_reducible rfl)
      try simp only [Act.put, List.getElem_toArray, List.getElem_cons_zero, List.getElem_cons_succ, List.setIfInBounds_toArray, List.set_cons_zero, List.set_cons_succ]
      refine wpAnyH_take (i := 8) (oi := _) (v := ?vz61u9) rfl (by kernel_rfl) (by kernel_rfl) (by kernel_rfl) (fun _ _ _ h => h) (Or.inl ⟨by kernel_rfl, ?hyz61u9⟩) hHeld ?restz61u9
      case hyz61u9 => (intro w hSw; (try dsimp only at hSw); go_simp; first | done | with_reducible rfl)
      try simp only [Act.put, List.getElem_toArray, List.getElem_cons_zero, List.getElem_cons_succ, List.setIfInBounds_toArray, List.set_cons_zero, List.set_cons_succ]
      refine wpAnyH_take (i := 9) (oi := _) (v := ?vz61u10) rfl (by kernel_rfl) (by kernel_rfl) (by kernel_rfl) (fun _ _ _ h => h) (Or.inl ⟨by kernel_rfl, ?hyz61u10⟩) hHeld ?restz61u10
      case hyz61u10 => (intro w hSw; (try dsimp only at hSw); go_simp; first | done | with_reducible rfl)
      try simp only [Act.put, List.getElem_toArray, List.getElem_cons_zero, List.getElem_cons_succ, List.setIfInBounds_toArray, List.set_cons_zero, List.set_cons_succ]
      refine wpAnyH_take (i := 10) (oi := _) (v := ?vz61u11) rfl (by kernel_rfl) (by kernel_rfl) (by kernel_rfl) (fun _ _ _ h => h) (Or.inl ⟨by kernel_rfl, ?hyz61u11⟩) hHeld ?restz61u11
      case hyz61u11 => (intro w hSw; (try dsimp only at hSw); go_simp; first | done | with_reducible rfl)
      try simp only [Act.put, List.getElem_toArray, List.getElem_cons_zero, List.getElem_cons_succ, List.setIfInBounds_toArray, List.set_cons_zero, List.set_cons_succ]
      refine wpAnyH_ready (rs := [11]) (by kernel_rfl) (by simp) ?_
      refine AllReadyH.cons (o := _) rfl (fun K0 hK0 => ?_) AllReadyH.nil
      go_simp
      go_at_call 26
      refine (SO.out _ _ _ (HOR.out.kept (Below.refl _ _).drew) hcp hnc).mono ?_
      rintro e wz61v12 ⟨c5, d5, rfl, _, bz61v12⟩
      refine hK0.out _ _ (K.out _ (thenB (Below.refl _ _).drew bz61v12)) (fun hHeld => ?_)
      clear hK0 K0
      try simp only [Act.put, List.getElem_toArray, List.getElem_cons_zero, List.getElem_cons_succ, List.setIfInBounds_toArray, List.set_cons_zero, List.set_cons_succ]
      refine wpAnyH_take (i := 12) (oi := _) (v := ?vz61u13) rfl (by kernel_rfl) (by kernel_rfl) (by kernel_rfl) (fun _ _ _ h => h) (Or.inl ⟨by kernel_rfl, ?hyz61u13⟩) hHeld ?restz61u13
      case hyz61u13 => (intro w hSw; (try dsimp only at hSw); go_simp; first | done | with_reducible rfl)
      try simp only [Act.put, List.getElem_toArray, List.getElem_cons_zero, List.getElem_cons_succ, List.setIfInBounds_toArray, List.set_cons_zero, List.set_cons_succ]
      refine wpAnyH_take (i := 13) (oi := _) (v := ?vz61u14) rfl (by kernel_rfl) (by kernel_rfl) (by kernel_rfl) (fun _ _ _ h => h) (Or.inl ⟨by kernel_rfl, ?hyz61u14⟩) hHeld ?restz61u14
      case hyz61u14 => (intro w hSw; (try dsimp only at hSw); go_simp; first | done | with_reducible rfl)
      try simp only [Act.put, List.getElem_toArray, List.getElem_cons_zero, List.getElem_cons_succ, List.setIfInBounds_toArray, List.set_cons_zero, List.set_cons_succ]
      refine wpAnyH_take (i := 14) (oi := _) (v := ?vz61u15) rfl (by kernel_rfl) (by kernel_rfl) (by kernel_rfl) (fun _ _ _ h => h) (Or.inl ⟨by kernel_rfl, ?hyz61u15⟩) hHeld ?restz61u15
      case hyz61u15 => (intro w hSw; (try dsimp only at hSw); go_simp; first | done | with_reducible rfl)
      try simp only [Act.put, List.getElem_toArray, List.getElem_cons_zero, List.getElem_cons_succ, List.setIfInBounds_toArray, List.set_cons_zero, List.set_cons_succ]
      refine wpAnyH_take (i := 15) (oi := _) (v := ?vz61u16) rfl (by kernel_rfl) (by kernel_rfl) (by kernel_rfl) (fun _ _ _ h => h) (Or.inl ⟨by kernel_rfl, ?hyz61u16⟩) hHeld ?restz61u16
      case hyz61u16 => (intro w hSw; (try dsimp only at hSw); go_simp; first | done | with_reducible rfl)
      try simp only [Act.put, List.getElem_toArray, List.getElem_cons_zero, List.getElem_cons_succ, List.setIfInBounds_toArray, List.set_cons_zero, List.set_cons_succ]
      refine wpAnyH_take (i := 16) (oi := _) (v := ?vz61u17) rfl (by kernel_rfl) (by kernel_rfl) (by kernel_rfl) (fun _ _ _ h => h) (Or.inl ⟨by kernel_rfl, ?hyz61u17⟩) hHeld ?restz61u17
      case hyz61u17 => (intro w hSw; (try dsimp only at hSw); go_simp; first | done | with_reducible rfl)
      try simp only [Act.put, List.getElem_toArray, List.getElem_cons_zero, List.getElem_cons_succ, List.setIfInBounds_toArray, List.set_cons_zero, List.set_cons_succ]
      refine wpAnyH_take (i := 17) (oi := _) (v := ?vz61u18) rfl (by kernel_rfl) (by kernel_rfl) (by kernel_rfl) (fun _ _ _ h => h) (Or.inl ⟨by kernel_rfl, ?hyz61u18⟩) hHeld ?restz61u18
      case hyz61u18 => (intro w hSw; (try dsimp only at hSw); go_simp; first | done | with_reducible rfl)
      try simp only [Act.put, List.getElem_toArray, List.getElem_cons_zero, List.getElem_cons_succ, List.setIfInBounds_toArray, List.set_cons_zero, List.set_cons_succ]
      refine wpAnyH_take (i := 18) (oi := _) (v := ?vz61u19) rfl (by kernel_rfl) (by kernel_rfl) (by kernel_rfl) (fun _ _ _ h => h) (Or.inl ⟨by kernel_rfl, ?hyz61u19⟩) hHeld ?restz61u19
      case hyz61u19 => (intro w hSw; (try dsimp only at hSw); go_simp; first | done | with_reducible rfl)
      try simp only [Act.put, List.getElem_toArray, List.getElem_cons_zero, List.getElem_cons_succ, List.setIfInBounds_toArray, List.set_cons_zero, List.set_cons_succ]
      refine wpAnyH_take (i := 19) (oi := _) (v := ?vz61u20) rfl (by kernel_rfl) (by kernel_rfl) (by kernel_rfl) (fun _ _ _ h => h) (Or.inl ⟨by kernel_rfl, ?hyz61u20⟩) hHeld ?restz61u20
      case hyz61u20 => (intro w hSw; (try dsimp only at hSw); go_simp; first | done | with_reducible rfl)
      try simp only [Act.put, List.getElem_toArray, List.getElem_cons_zero, List.getElem_cons_succ, List.setIfInBounds_toArray, List.set_cons_zero, List.set_cons_succ]
      refine wpAnyH_take (i := 20) (oi := _) (v := ?vz61u21) rfl (by kernel_rfl) (by kernel_rfl) (by kernel_rfl) (fun _ _ _ h => h) (Or.inl ⟨by kernel_rfl, ?hyz61u21⟩) hHeld ?restz61u21
      case hyz61u21 => (intro w hSw; (try dsimp only at hSw); go_simp; first | done | with_reducible rfl)
      try simp only [Act.put, List.getElem_toArray, List.getElem_cons_zero, List.getElem_cons_succ, List.setIfInBounds_toArray, List.set_cons_zero, List.set_cons_succ]
      refine wpAnyH_take (i := 21) (oi := _) (v := ?vz61u22) rfl (by kernel_rfl) (by kernel_rfl) (by kernel_rfl) (fun _ _ _ h => h) (Or.inl ⟨by kernel_rfl, ?hyz61u22⟩) hHeld ?restz61u22
      case hyz61u22 => (intro w hSw; (try dsimp only at hSw); go_simp; first | done | with_reducible rfl)
      try simp only [Act.put, List.getElem_toArray, List.getElem_cons_zero, List.getElem_cons_succ, List.setIfInBounds_toArray, List.set_cons_zero, List.set_cons_succ]
      refine wpAnyH_take (i := 22) (oi := _) (v := ?vz61u23) rfl (by kernel_rfl) (by kernel_rfl) (by kernel_rfl) (fun _ _ _ h => h) (Or.inl ⟨by kernel_rfl, ?hyz61u23⟩) hHeld ?restz61u23
      case hyz61u23 => (intro w hSw; (try dsimp only at hSw); go_simp; first | done | with_reducible rfl)
      try simp only [Act.put, List.getElem_toArray, List.getElem_cons_zero, List.getElem_cons_succ, List.setIfInBounds_toArray, List.set_cons_zero, List.set_cons_succ]
      refine wpAnyH_take (i := 23) (oi := _) (v := ?vz61u24) rfl (by kernel_rfl) (by kernel_rfl) (by kernel_rfl) (fun _ _ _ h => h) (Or.inl ⟨by kernel_rfl, ?hyz61u24⟩) hHeld ?restz61u24
      case hyz61u24 => (intro w hSw; (try dsimp only at hSw); go_simp; first | done | with_reducible rfl)
      try simp only [Act.put, List.getElem_toArray, List.getElem_cons_zero, List.getElem_cons_succ, List.setIfInBounds_toArray, List.set_cons_zero, List.set_cons_succ]
      refine wpAnyH_ready (rs := [24]) (by kernel_rfl) (by simp) ?_
      refine AllReadyH.cons (o := _) rfl (fun K0 hK0 => ?_) AllReadyH.nil
      go_simp
      go_at_call 26
      refine (ST.out _ _ _ (HOR.out.kept (thenB (Below.refl _ _).drew bz61v12)) hcp hnc).mono ?_
      rintro e wz61v25 ⟨c6, d6, rfl, _, bz61v25⟩
      refine hK0.out _ _ (K.out _ (thenB (thenB (Below.refl _ _).drew bz61v12) bz61v25)) (fun hHeld => ?_)
      clear hK0 K0
      try simp only [Act.put, List.getElem_toArray, List.getElem_cons_zero, List.getElem_cons_succ, List.setIfInBounds_toArray, List.set_cons_zero, List.set_cons_succ]
      refine wpAnyH_take (i := 25) (oi := _) (v := ?vz61u26) rfl (by kernel_rfl) (by kernel_rfl) (by kernel_rfl) (fun _ _ _ h => h) (Or.inl ⟨by kernel_rfl, ?hyz61u26⟩) hHeld ?restz61u26
      case hyz61u26 => (intro w hSw; (try dsimp only at hSw); go_simp; first | done | with_reducible rfl)
      try simp only [Act.put, List.getElem_toArray, List.getElem_cons_zero, List.getElem_cons_succ, List.setIfInBounds_toArray, List.set_cons_zero, List.set_cons_succ]
      refine wpAnyH_take (i := 26) (oi := _) (v := ?vz61u27) rfl (by kernel_rfl) (by kernel_rfl) (by kernel_rfl) (fun _ _ _ h => h) (Or.inl ⟨by kernel_rfl, ?hyz61u27⟩) hHeld ?restz61u27
      case hyz61u27 => (intro w hSw; (try dsimp only at hSw); go_simp; first | done | with_reducible rfl)
      try simp only [Act.put, List.getElem_toArray, List.getElem_cons_zero, List.getElem_cons_succ, List.setIfInBounds_toArray, List.set_cons_zero, List.set_cons_succ]
      refine wpAnyH_take (i := 27) (oi := _) (v := ?vz61u28) rfl (by kernel_rfl) (by kernel_rfl) (by kernel_rfl) (fun _ _ _ h => h) (Or.inl ⟨by kernel_rfl, ?hyz61u28⟩) hHeld ?restz61u28
      case hyz61u28 => (intro w hSw; (try dsimp only at hSw); go_simp; first | done | with_reducible rfl)
      try simp only [Act.put, List.getElem_toArray, List.getElem_cons_zero, List.getElem_cons_succ, List.setIfInBounds_toArray, List.set_cons_zero, List.set_cons_succ]
      refine wpAnyH_take (i := 28) (oi := _) (v := ?vz61u29) rfl (by kernel_rfl) (by kernel_rfl) (by kernel_rfl) (fun _ _ _ h => h) (Or.inl ⟨by kernel_rfl, ?hyz61u29⟩) hHeld ?restz61u29
      case hyz61u29 => (intro w hSw; (try dsimp only at hSw); go_simp; first | done | with_reducible rfl)
      try simp only [Act.put, List.getElem_toArray, List.getElem_cons_zero, List.getElem_cons_succ, List.setIfInBounds_toArray, List.set_cons_zero, List.set_cons_succ]
      refine wpAnyH_done (by kernel_rfl) ?_ _
      clear K hHeld
      have bacc : Below (w64.alloc (.cells #[.int .i64 kc3, .int .i64 kk3, .slice c4 kl3 d4] 33)).heap.size (w64.alloc (.cells #[.int .i64 kc3, .int .i64 kk3, .slice c4 kl3 d4] 33)) wz61v25 := (thenB (thenB (Below.refl _ _).drew bz61v12) bz61v25)
      replace VR := VR.kept bacc
      replace VA := VA.kept bacc
      replace VO := VO.kept bacc
      replace VT := VT.kept bacc
      replace O1 := O1.kept bacc
      replace B := thenB B bacc
      have Sz61 := (bacc).size
      clear bacc
      simp only [World.size_alloc] at Sz61
      clear bz61v12 bz61v25
      obtain ⟨s_VR, f_VR, z_VR⟩ := VR.open
      obtain ⟨s_VA, f_VA, z_VA⟩ := VA.open
      obtain ⟨s_VO, f_VO, z_VO⟩ := VO.open
      obtain ⟨s_VT, f_VT, z_VT⟩ := VT.open
      have Bo := B
      go_wp2
      go_ret
      exact ⟨rfl, HB0.out.trans (B.mono HB0.out.size)⟩
    · subst h2
      go_wp2_with fail
      refine (CI.out _ (HR.out.kept B)).mono ?_
      rintro e w101 ⟨c1, d1, rfl, O1, b101⟩
      have S101 := b101.size
      replace B := thenB B b101
      clear b101
      have Bo := B
      replace O1 := O1.kept (belowA w101 (.cells #[.int .i64 0, .int .i64 kk, .slice c1 kl d1] 33))
      replace B := thenB B (belowA w101 (.cells #[.int .i64 0, .int .i64 kk, .slice c1 kl d1] 33))
      have VR := V.new w101 [.int .i64 0, .int .i64 kk, .slice c1 kl d1] 33
      obtain ⟨s_VR, f_VR, z_VR⟩ := VR.open
      have Bo := B
      have HO := Hid.mk O1.rd
      go_wp2_with fail
      refine (CA.out _ _ _ O1.rd).mono ?_
      rintro e w102 ⟨c2, d2, rfl, O2, b102⟩
      clear s_VR f_VR z_VR
      have S102 := b102.size
      simp only [World.size_alloc] at S102
      replace VR := VR.kept b102
      replace O1 := O1.kept b102
      replace B := thenB B b102
      clear b102
      obtain ⟨s_VR, f_VR, z_VR⟩ := VR.open
      have Bo := B
      clear O2
      replace VR := VR.kept (belowA w102 (.cells #[.int .i64 0, .int .i64 kk, .slice c2 kl d2] 33))
      replace O1 := O1.kept (belowA w102 (.cells #[.int .i64 0, .int .i64 kk, .slice c2 kl d2] 33))
      replace B := thenB B (belowA w102 (.cells #[.int .i64 0, .int .i64 kk, .slice c2 kl d2] 33))
      have VA := V.new w102 [.int .i64 0, .int .i64 kk, .slice c2 kl d2] 33
      clear s_VR f_VR z_VR
      obtain ⟨s_VR, f_VR, z_VR⟩ := VR.open
      obtain ⟨s_VA, f_VA, z_VA⟩ := VA.open
      replace Bo := B
      go_wp2_with fail
      refine (CO.out _ _ _ O1.rd).mono ?_
      rintro e w103 ⟨c3, d3, rfl, O3, b103⟩
      clear s_VR f_VR z_VR s_VA f_VA z_VA
      have S103 := b103.size
      simp only [World.size_alloc] at S103
      replace VR := VR.kept b103
      replace VA := VA.kept b103
      replace O1 := O1.kept b103
      replace B := thenB B b103
      clear b103
      obtain ⟨s_VR, f_VR, z_VR⟩ := VR.open
      obtain ⟨s_VA, f_VA, z_VA⟩ := VA.open
      have Bo := B
      clear O3
      replace VR := VR.kept (belowA w103 (.cells #[.int .i64 0, .int .i64 kk2, .slice c3 kl2 d3] 33))
      replace VA := VA.kept (belowA w103 (.cells #[.int .i64 0, .int .i64 kk2, .slice c3 kl2 d3] 33))
      replace O1 := O1.kept (belowA w103 (.cells #[.int .i64 0, .int .i64 kk2, .slice c3 kl2 d3] 33))
      replace B := thenB B (belowA w103 (.cells #[.int .i64 0, .int .i64 kk2, .slice c3 kl2 d3] 33))
      have VO := V.new w103 [.int .i64 0, .int .i64 kk2, .slice c3 kl2 d3] 33
      clear s_VR f_VR z_VR s_VA f_VA z_VA
      obtain ⟨s_VR, f_VR, z_VR⟩ := VR.open
      obtain ⟨s_VA, f_VA, z_VA⟩ := VA.open
      obtain ⟨s_VO, f_VO, z_VO⟩ := VO.open
      replace Bo := B
      go_wp2_with fail
      refine (CT.out _ _ _ O1.rd).mono ?_
      rintro e w104 ⟨c4, d4, rfl, O4, b104⟩
      clear s_VR f_VR z_VR s_VA f_VA z_VA s_VO f_VO z_VO
      have S104 := b104.size
      simp only [World.size_alloc] at S104
      replace VR := VR.kept b104
      replace VA := VA.kept b104
      replace VO := VO.kept b104
      replace O1 := O1.kept b104
      replace B := thenB B b104
      clear b104
      obtain ⟨s_VR, f_VR, z_VR⟩ := VR.open
      obtain ⟨s_VA, f_VA, z_VA⟩ := VA.open
      obtain ⟨s_VO, f_VO, z_VO⟩ := VO.open
      have Bo := B
      clear O4
      replace VR := VR.kept (belowA w104 (.cells #[.int .i64 kc3, .int .i64 kk3, .slice c4 kl3 d4] 33))
      replace VA := VA.kept (belowA w104 (.cells #[.int .i64 kc3, .int .i64 kk3, .slice c4 kl3 d4] 33))
      replace VO := VO.kept (belowA w104 (.cells #[.int .i64 kc3, .int .i64 kk3, .slice c4 kl3 d4] 33))
      replace O1 := O1.kept (belowA w104 (.cells #[.int .i64 kc3, .int .i64 kk3, .slice c4 kl3 d4] 33))
      replace B := thenB B (belowA w104 (.cells #[.int .i64 kc3, .int .i64 kk3, .slice c4 kl3 d4] 33))
      have VT := V.new w104 [.int .i64 kc3, .int .i64 kk3, .slice c4 kl3 d4] 33
      clear s_VR f_VR z_VR s_VA f_VA z_VA s_VO f_VO z_VO
      obtain ⟨s_VR, f_VR, z_VR⟩ := VR.open
      obtain ⟨s_VA, f_VA, z_VA⟩ := VA.open
      obtain ⟨s_VO, f_VO, z_VO⟩ := VO.open
      obtain ⟨s_VT, f_VT, z_VT⟩ := VT.open
      replace Bo := B
      have hcp := O1.cap
      rw [HKL.out] at hcp
      have hnc := ownTerm_nocap O1
      have HOR := Hid.mk O1.rd
      go_upto_region 13 with fail
      clear s_VR f_VR z_VR s_VA f_VA z_VA s_VO f_VO z_VO s_VT f_VT z_VT
      have K : ∀ w' : World, Below (w104.alloc (.cells #[.int .i64 kc3, .int .i64 kk3, .slice c4 kl3 d4] 33)).heap.size (w104.alloc (.cells #[.int .i64 kc3, .int .i64 kk3, .slice c4 kl3 d4] 33)) w' → (w'.cell? ⟨w101.heap.size, 0, none⟩ = some (.int .i64 0) ∧ w'.cell? ⟨w101.heap.size, 1, none⟩ = some (.int .i64 kk) ∧ w'.cell? ⟨w101.heap.size, 2, none⟩ = some (.slice c1 kl d1) ∧ w'.cell? ⟨w103.heap.size, 0, none⟩ = some (.int .i64 0) ∧ w'.cell? ⟨w103.heap.size, 1, none⟩ = some (.int .i64 kk2) ∧ w'.cell? ⟨w103.heap.size, 2, none⟩ = some (.slice c3 kl2 d3) ∧ w'.cell? ⟨w104.heap.size, 0, none⟩ = some (.int .i64 kc3) ∧ w'.cell? ⟨w104.heap.size, 1, none⟩ = some (.int .i64 kk3) ∧ w'.cell? ⟨w104.heap.size, 2, none⟩ = some (.slice c4 kl3 d4)) := fun w' h => ⟨(VR.kept h).2.1 0 (by simp), (VR.kept h).2.1 1 (by simp), (VR.kept h).2.1 2 (by simp), (VO.kept h).2.1 0 (by simp), (VO.kept h).2.1 1 (by simp), (VO.kept h).2.1 2 (by simp), (VT.kept h).2.1 0 (by simp), (VT.kept h).2.1 1 (by simp), (VT.kept h).2.1 2 (by simp)⟩
      have K := Hid.mk K
      refine wp_region_held_drew (S := (fun w' => w'.cell? ⟨w101.heap.size, 0, none⟩ = some (.int .i64 0) ∧ w'.cell? ⟨w101.heap.size, 1, none⟩ = some (.int .i64 kk) ∧ w'.cell? ⟨w101.heap.size, 2, none⟩ = some (.slice c1 kl d1) ∧ w'.cell? ⟨w103.heap.size, 0, none⟩ = some (.int .i64 0) ∧ w'.cell? ⟨w103.heap.size, 1, none⟩ = some (.int .i64 kk2) ∧ w'.cell? ⟨w103.heap.size, 2, none⟩ = some (.slice c3 kl2 d3) ∧ w'.cell? ⟨w104.heap.size, 0, none⟩ = some (.int .i64 kc3) ∧ w'.cell? ⟨w104.heap.size, 1, none⟩ = some (.int .i64 kk3) ∧ w'.cell? ⟨w104.heap.size, 2, none⟩ = some (.slice c4 kl3 d4))) (by kernel_rfl) (K.out _ (Below.refl _ _).drew) (fun hHeld => ?_)
      refine wpAnyH_take (i := 0) (oi := _) (v := ?vz101u1) rfl (by kernel_rfl) (by kernel_rfl) (by kernel_rfl) (fun _ _ _ h => h) (Or.inl ⟨by kernel_rfl, ?hyz101u1⟩) hHeld ?restz101u1
      case hyz101u1 => (intro w hSw; (try dsimp only at hSw); go_simp; first | done | with_reducible rfl)
      try simp only [Act.put, List.getElem_toArray, List.getElem_cons_zero, List.setIfInBounds_toArray, List.set_cons_zero, List.set_cons_succ]
      refine wpAnyH_take (i := 1) (oi := _) (v := ?vz101u2) rfl (by kernel_rfl) (by kernel_rfl) (by kernel_rfl) (fun _ _ _ h => h) (Or.inl ⟨by kernel_rfl, ?hyz101u2⟩) hHeld ?restz101u2
      case hyz101u2 => (intro w hSw; (try dsimp only at hSw); go_simp; first | done | with_reducible rfl)
      try simp only [Act.put, List.getElem_toArray, List.getElem_cons_zero, List.getElem_cons_succ, List.setIfInBounds_toArray, List.set_cons_zero, List.set_cons_succ]
      refine wpAnyH_take (i := 2) (oi := _) (v := ?vz101u3) rfl (by kernel_rfl) (by kernel_rfl) (by kernel_rfl) (fun _ _ _ h => h) (Or.inl ⟨by kernel_rfl, ?hyz101u3⟩) hHeld ?restz101u3
      case hyz101u3 => (intro w hSw; (try dsimp only at hSw); go_simp; first | done | with_reducible rfl)
      try simp only [Act.put, List.getElem_toArray, List.getElem_cons_zero, List.getElem_cons_succ, List.setIfInBounds_toArray, List.set_cons_zero, List.set_cons_succ]
      refine wpAnyH_take (i := 3) (oi := _) (v := ?vz101u4) rfl (by kernel_rfl) (by kernel_rfl) (by kernel_rfl) (fun _ _ _ h => h) (Or.inl ⟨by kernel_rfl, ?hyz101u4⟩) hHeld ?restz101u4
      case hyz101u4 => (intro w hSw; (try dsimp only at hSw); go_simp; first | done | with_reducible rfl)
      try simp only [Act.put, List.getElem_toArray, List.getElem_cons_zero, List.getElem_cons_succ, List.setIfInBounds_toArray, List.set_cons_zero, List.set_cons_succ]
      refine wpAnyH_take (i := 4) (oi := _) (v := ?vz101u5) rfl (by kernel_rfl) (by kernel_rfl) (by kernel_rfl) (fun _ _ _ h => h) (Or.inl ⟨by kernel_rfl, ?hyz101u5⟩) hHeld ?restz101u5
      case hyz101u5 => (intro w hSw; (try dsimp only at hSw); go_simp; first | done | with_reducible rfl)
      try simp only [Act.put, List.getElem_toArray, List.getElem_cons_zero, List.getElem_cons_succ, List.setIfInBounds_toArray, List.set_cons_zero, List.set_cons_succ]
      refine wpAnyH_take (i := 5) (oi := _) (v := ?vz101u6) rfl (by kernel_rfl) (by kernel_rfl) (by kernel_rfl) (fun _ _ _ h => h) (Or.inl ⟨by kernel_rfl, ?hyz101u6⟩) hHeld ?restz101u6
      case hyz101u6 => (intro w hSw; (try dsimp only at hSw); go_simp; first | done | with_reducible rfl)
      try simp only [Act.put, List.getElem_toArray, List.getElem_cons_zero, List.getElem_cons_succ, List.setIfInBounds_toArray, List.set_cons_zero, List.set_cons_succ]
      refine wpAnyH_take (i := 6) (oi := _) (v := ?vz101u7) rfl (by kernel_rfl) (by kernel_rfl) (by kernel_rfl) (fun _ _ _ h => h) (Or.inl ⟨by kernel_rfl, ?hyz101u7⟩) hHeld ?restz101u7
      case hyz101u7 => (intro w hSw; (try dsimp only at hSw); go_simp; first | done | with_reducible rfl)
      try simp only [Act.put, List.getElem_toArray, List.getElem_cons_zero, List.getElem_cons_succ, List.setIfInBounds_toArray, List.set_cons_zero, List.set_cons_succ]
      refine wpAnyH_take (i := 7) (oi := _) (v := ?vz101u8) rfl (by kernel_rfl) (by kernel_rfl) (by kernel_rfl) (fun _ _ _ h => h) (Or.inl ⟨by kernel_rfl, ?hyz101u8⟩) hHeld ?restz101u8
      case hyz101u8 => (intro w hSw; (try dsimp only at hSw); go_simp; first | done | with_reducible rfl)
      try simp only [Act.put, List.getElem_toArray, List.getElem_cons_zero, List.getElem_cons_succ, List.setIfInBounds_toArray, List.set_cons_zero, List.set_cons_succ]
      refine wpAnyH_take (i := 8) (oi := _) (v := ?vz101u9) rfl (by kernel_rfl) (by kernel_rfl) (by kernel_rfl) (fun _ _ _ h => h) (Or.inl ⟨by kernel_rfl, ?hyz101u9⟩) hHeld ?restz101u9
      case hyz101u9 => (intro w hSw; (try dsimp only at hSw); go_simp; first | done | with_reducible rfl)
      try simp only [Act.put, List.getElem_toArray, List.getElem_cons_zero, List.getElem_cons_succ, List.setIfInBounds_toArray, List.set_cons_zero, List.set_cons_succ]
      refine wpAnyH_take (i := 9) (oi := _) (v := ?vz101u10) rfl (by kernel_rfl) (by kernel_rfl) (by kernel_rfl) (fun _ _ _ h => h) (Or.inl ⟨by kernel_rfl, ?hyz101u10⟩) hHeld ?restz101u10
      case hyz101u10 => (intro w hSw; (try dsimp only at hSw); go_simp; first | done | with_reducible rfl)
      try simp only [Act.put, List.getElem_toArray, List.getElem_cons_zero, List.getElem_cons_succ, List.setIfInBounds_toArray, List.set_cons_zero, List.set_cons_succ]
      refine wpAnyH_take (i := 10) (oi := _) (v := ?vz101u11) rfl (by kernel_rfl) (by kernel_rfl) (by kernel_rfl) (fun _ _ _ h => h) (Or.inl ⟨by kernel_rfl, ?hyz101u11⟩) hHeld ?restz101u11
      case hyz101u11 => (intro w hSw; (try dsimp only at hSw); go_simp; first | done | with_reducible rfl)
      try simp only [Act.put, List.getElem_toArray, List.getElem_cons_zero, List.getElem_cons_succ, List.setIfInBounds_toArray, List.set_cons_zero, List.set_cons_succ]
      refine wpAnyH_ready (rs := [11]) (by kernel_rfl) (by simp) ?_
      refine AllReadyH.cons (o := _) rfl (fun K0 hK0 => ?_) AllReadyH.nil
      go_simp
      go_at_call 26
      refine (SO.out _ _ _ (HOR.out.kept (Below.refl _ _).drew) hcp hnc).mono ?_
      rintro e wz101v12 ⟨c5, d5, rfl, _, bz101v12⟩
      refine hK0.out _ _ (K.out _ (thenB (Below.refl _ _).drew bz101v12)) (fun hHeld => ?_)
      clear hK0 K0
      try simp only [Act.put, List.getElem_toArray, List.getElem_cons_zero, List.getElem_cons_succ, List.setIfInBounds_toArray, List.set_cons_zero, List.set_cons_succ]
      refine wpAnyH_take (i := 12) (oi := _) (v := ?vz101u13) rfl (by kernel_rfl) (by kernel_rfl) (by kernel_rfl) (fun _ _ _ h => h) (Or.inl ⟨by kernel_rfl, ?hyz101u13⟩) hHeld ?restz101u13
      case hyz101u13 => (intro w hSw; (try dsimp only at hSw); go_simp; first | done | with_reducible rfl)
      try simp only [Act.put, List.getElem_toArray, List.getElem_cons_zero, List.getElem_cons_succ, List.setIfInBounds_toArray, List.set_cons_zero, List.set_cons_succ]
      refine wpAnyH_take (i := 13) (oi := _) (v := ?vz101u14) rfl (by kernel_rfl) (by kernel_rfl) (by kernel_rfl) (fun _ _ _ h => h) (Or.inl ⟨by kernel_rfl, ?hyz101u14⟩) hHeld ?restz101u14
      case hyz101u14 => (intro w hSw; (try dsimp only at hSw); go_simp; first | done | with_reducible rfl)
      try simp only [Act.put, List.getElem_toArray, List.getElem_cons_zero, List.getElem_cons_succ, List.setIfInBounds_toArray, List.set_cons_zero, List.set_cons_succ]
      refine wpAnyH_take (i := 14) (oi := _) (v := ?vz101u15) rfl (by kernel_rfl) (by kernel_rfl) (by kernel_rfl) (fun _ _ _ h => h) (Or.inl ⟨by kernel_rfl, ?hyz101u15⟩) hHeld ?restz101u15
      case hyz101u15 => (intro w hSw; (try dsimp only at hSw); go_simp; first | done | with_reducible rfl)
      try simp only [Act.put, List.getElem_toArray, List.getElem_cons_zero, List.getElem_cons_succ, List.setIfInBounds_toArray, List.set_cons_zero, List.set_cons_succ]
      refine wpAnyH_take (i := 15) (oi := _) (v := ?vz101u16) rfl (by kernel_rfl) (by kernel_rfl) (by kernel_rfl) (fun _ _ _ h => h) (Or.inl ⟨by kernel_rfl, ?hyz101u16⟩) hHeld ?restz101u16
      case hyz101u16 => (intro w hSw; (try dsimp only at hSw); go_simp; first | done | with_reducible rfl)
      try simp only [Act.put, List.getElem_toArray, List.getElem_cons_zero, List.getElem_cons_succ, List.setIfInBounds_toArray, List.set_cons_zero, List.set_cons_succ]
      refine wpAnyH_take (i := 16) (oi := _) (v := ?vz101u17) rfl (by kernel_rfl) (by kernel_rfl) (by kernel_rfl) (fun _ _ _ h => h) (Or.inl ⟨by kernel_rfl, ?hyz101u17⟩) hHeld ?restz101u17
      case hyz101u17 => (intro w hSw; (try dsimp only at hSw); go_simp; first | done | with_reducible rfl)
      try simp only [Act.put, List.getElem_toArray, List.getElem_cons_zero, List.getElem_cons_succ, List.setIfInBounds_toArray, List.set_cons_zero, List.set_cons_succ]
      refine wpAnyH_take (i := 17) (oi := _) (v := ?vz101u18) rfl (by kernel_rfl) (by kernel_rfl) (by kernel_rfl) (fun _ _ _ h => h) (Or.inl ⟨by kernel_rfl, ?hyz101u18⟩) hHeld ?restz101u18
      case hyz101u18 => (intro w hSw; (try dsimp only at hSw); go_simp; first | done | with_reducible rfl)
      try simp only [Act.put, List.getElem_toArray, List.getElem_cons_zero, List.getElem_cons_succ, List.setIfInBounds_toArray, List.set_cons_zero, List.set_cons_succ]
      refine wpAnyH_take (i := 18) (oi := _) (v := ?vz101u19) rfl (by kernel_rfl) (by kernel_rfl) (by kernel_rfl) (fun _ _ _ h => h) (Or.inl ⟨by kernel_rfl, ?hyz101u19⟩) hHeld ?restz101u19
      case hyz101u19 => (intro w hSw; (try dsimp only at hSw); go_simp; first | done | with_reducible rfl)
      try simp only [Act.put, List.getElem_toArray, List.getElem_cons_zero, List.getElem_cons_succ, List.setIfInBounds_toArray, List.set_cons_zero, List.set_cons_succ]
      refine wpAnyH_take (i := 19) (oi := _) (v := ?vz101u20) rfl (by kernel_rfl) (by kernel_rfl) (by kernel_rfl) (fun _ _ _ h => h) (Or.inl ⟨by kernel_rfl, ?hyz101u20⟩) hHeld ?restz101u20
      case hyz101u20 => (intro w hSw; (try dsimp only at hSw); go_simp; first | done | with_reducible rfl)
      try simp only [Act.put, List.getElem_toArray, List.getElem_cons_zero, List.getElem_cons_succ, List.setIfInBounds_toArray, List.set_cons_zero, List.set_cons_succ]
      refine wpAnyH_take (i := 20) (oi := _) (v := ?vz101u21) rfl (by kernel_rfl) (by kernel_rfl) (by kernel_rfl) (fun _ _ _ h => h) (Or.inl ⟨by kernel_rfl, ?hyz101u21⟩) hHeld ?restz101u21
      case hyz101u21 => (intro w hSw; (try dsimp only at hSw); go_simp; first | done | with_reducible rfl)
      try simp only [Act.put, List.getElem_toArray, List.getElem_cons_zero, List.getElem_cons_succ, List.setIfInBounds_toArray, List.set_cons_zero, List.set_cons_succ]
      refine wpAnyH_take (i := 21) (oi := _) (v := ?vz101u22) rfl (by kernel_rfl) (by kernel_rfl) (by kernel_rfl) (fun _ _ _ h => h) (Or.inl ⟨by kernel_rfl, ?hyz101u22⟩) hHeld ?restz101u22
      case hyz101u22 => (intro w hSw; (try dsimp only at hSw); go_simp; first | done | with_reducible rfl)
      try simp only [Act.put, List.getElem_toArray, List.getElem_cons_zero, List.getElem_cons_succ, List.setIfInBounds_toArray, List.set_cons_zero, List.set_cons_succ]
      refine wpAnyH_take (i := 22) (oi := _) (v := ?vz101u23) rfl (by kernel_rfl) (by kernel_rfl) (by kernel_rfl) (fun _ _ _ h => h) (Or.inl ⟨by kernel_rfl, ?hyz101u23⟩) hHeld ?restz101u23
      case hyz101u23 => (intro w hSw; (try dsimp only at hSw); go_simp; first | done | with_reducible rfl)
      try simp only [Act.put, List.getElem_toArray, List.getElem_cons_zero, List.getElem_cons_succ, List.setIfInBounds_toArray, List.set_cons_zero, List.set_cons_succ]
      refine wpAnyH_take (i := 23) (oi := _) (v := ?vz101u24) rfl (by kernel_rfl) (by kernel_rfl) (by kernel_rfl) (fun _ _ _ h => h) (Or.inl ⟨by kernel_rfl, ?hyz101u24⟩) hHeld ?restz101u24
      case hyz101u24 => (intro w hSw; (try dsimp only at hSw); go_simp; first | done | with_reducible rfl)
      try simp only [Act.put, List.getElem_toArray, List.getElem_cons_zero, List.getElem_cons_succ, List.setIfInBounds_toArray, List.set_cons_zero, List.set_cons_succ]
      refine wpAnyH_ready (rs := [24]) (by kernel_rfl) (by simp) ?_
      refine AllReadyH.cons (o := _) rfl (fun K0 hK0 => ?_) AllReadyH.nil
      go_simp
      go_at_call 26
      refine (ST.out _ _ _ (HOR.out.kept (thenB (Below.refl _ _).drew bz101v12)) hcp hnc).mono ?_
      rintro e wz101v25 ⟨c6, d6, rfl, _, bz101v25⟩
      refine hK0.out _ _ (K.out _ (thenB (thenB (Below.refl _ _).drew bz101v12) bz101v25)) (fun hHeld => ?_)
      clear hK0 K0
      try simp only [Act.put, List.getElem_toArray, List.getElem_cons_zero, List.getElem_cons_succ, List.setIfInBounds_toArray, List.set_cons_zero, List.set_cons_succ]
      refine wpAnyH_take (i := 25) (oi := _) (v := ?vz101u26) rfl (by kernel_rfl) (by kernel_rfl) (by kernel_rfl) (fun _ _ _ h => h) (Or.inl ⟨by kernel_rfl, ?hyz101u26⟩) hHeld ?restz101u26
      case hyz101u26 => (intro w hSw; (try dsimp only at hSw); go_simp; first | done | with_reducible rfl)
      try simp only [Act.put, List.getElem_toArray, List.getElem_cons_zero, List.getElem_cons_succ, List.setIfInBounds_toArray, List.set_cons_zero, List.set_cons_succ]
      refine wpAnyH_take (i := 26) (oi := _) (v := ?vz101u27) rfl (by kernel_rfl) (by kernel_rfl) (by kernel_rfl) (fun _ _ _ h => h) (Or.inl ⟨by kernel_rfl, ?hyz101u27⟩) hHeld ?restz101u27
      case hyz101u27 => (intro w hSw; (try dsimp only at hSw); go_simp; first | done | with_reducible rfl)
      try simp only [Act.put, List.getElem_toArray, List.getElem_cons_zero, List.getElem_cons_succ, List.setIfInBounds_toArray, List.set_cons_zero, List.set_cons_succ]
      refine wpAnyH_take (i := 27) (oi := _) (v := ?vz101u28) rfl (by kernel_rfl) (by kernel_rfl) (by kernel_rfl) (fun _ _ _ h => h) (Or.inl ⟨by kernel_rfl, ?hyz101u28⟩) hHeld ?restz101u28
      case hyz101u28 => (intro w hSw; (try dsimp only at hSw); go_simp; first | done | with_reducible rfl)
      try simp only [Act.put, List.getElem_toArray, List.getElem_cons_zero, List.getElem_cons_succ, List.setIfInBounds_toArray, List.set_cons_zero, List.set_cons_succ]
      refine wpAnyH_take (i := 28) (oi := _) (v := ?vz101u29) rfl (by kernel_rfl) (by kernel_rfl) (by kernel_rfl) (fun _ _ _ h => h) (Or.inl ⟨by kernel_rfl, ?hyz101u29⟩) hHeld ?restz101u29
      case hyz101u29 => (intro w hSw; (try dsimp only at hSw); go_simp; first | done | with_reducible rfl)
      try simp only [Act.put, List.getElem_toArray, List.getElem_cons_zero, List.getElem_cons_succ, List.setIfInBounds_toArray, List.set_cons_zero, List.set_cons_succ]
      refine wpAnyH_done (by kernel_rfl) ?_ _
      clear K hHeld
      have bacc : Below (w104.alloc (.cells #[.int .i64 kc3, .int .i64 kk3, .slice c4 kl3 d4] 33)).heap.size (w104.alloc (.cells #[.int .i64 kc3, .int .i64 kk3, .slice c4 kl3 d4] 33)) wz101v25 := (thenB (thenB (Below.refl _ _).drew bz101v12) bz101v25)
      replace VR := VR.kept bacc
      replace VA := VA.kept bacc
      replace VO := VO.kept bacc
      replace VT := VT.kept bacc
      replace O1 := O1.kept bacc
      replace B := thenB B bacc
      have Sz101 := (bacc).size
      clear bacc
      simp only [World.size_alloc] at Sz101
      clear bz101v12 bz101v25
      obtain ⟨s_VR, f_VR, z_VR⟩ := VR.open
      obtain ⟨s_VA, f_VA, z_VA⟩ := VA.open
      obtain ⟨s_VO, f_VO, z_VO⟩ := VO.open
      obtain ⟨s_VT, f_VT, z_VT⟩ := VT.open
      have Bo := B
      go_wp2
      go_ret
      exact ⟨rfl, HB0.out.trans (B.mono HB0.out.size)⟩
    · subst h2 h3
      clear SO ST qf2 qf3
      obtain ⟨x2, hx2⟩ : ∃ q, (id2 == v5) = q := ⟨_, rfl⟩
      obtain ⟨x3, hx3⟩ : ∃ q, (v2 == v3) = q := ⟨_, rfl⟩
      rw [hx2] at b2
      rw [hx3] at b3
      go_wp2_with fail
      refine (CI.out _ (HR.out.kept B)).mono ?_
      rintro e w141 ⟨c1, d1, rfl, O1, b141⟩
      have S141 := b141.size
      replace B := thenB B b141
      clear b141
      have Bo := B
      replace O1 := O1.kept (belowA w141 (.cells #[.int .i64 0, .int .i64 kk, .slice c1 kl d1] 33))
      replace B := thenB B (belowA w141 (.cells #[.int .i64 0, .int .i64 kk, .slice c1 kl d1] 33))
      have VR := V.new w141 [.int .i64 0, .int .i64 kk, .slice c1 kl d1] 33
      obtain ⟨s_VR, f_VR, z_VR⟩ := VR.open
      have Bo := B
      have HO := Hid.mk O1.rd
      go_wp2_with fail
      refine (CA.out _ _ _ O1.rd).mono ?_
      rintro e w142 ⟨c2, d2, rfl, O2, b142⟩
      clear s_VR f_VR z_VR
      have S142 := b142.size
      simp only [World.size_alloc] at S142
      replace VR := VR.kept b142
      replace O1 := O1.kept b142
      replace B := thenB B b142
      clear b142
      obtain ⟨s_VR, f_VR, z_VR⟩ := VR.open
      have Bo := B
      clear O2
      replace VR := VR.kept (belowA w142 (.cells #[.int .i64 0, .int .i64 kk, .slice c2 kl d2] 33))
      replace O1 := O1.kept (belowA w142 (.cells #[.int .i64 0, .int .i64 kk, .slice c2 kl d2] 33))
      replace B := thenB B (belowA w142 (.cells #[.int .i64 0, .int .i64 kk, .slice c2 kl d2] 33))
      have VA := V.new w142 [.int .i64 0, .int .i64 kk, .slice c2 kl d2] 33
      clear s_VR f_VR z_VR
      obtain ⟨s_VR, f_VR, z_VR⟩ := VR.open
      obtain ⟨s_VA, f_VA, z_VA⟩ := VA.open
      replace Bo := B
      go_wp2_with fail
      refine (CO.out _ _ _ O1.rd).mono ?_
      rintro e w143 ⟨c3, d3, rfl, O3, b143⟩
      clear s_VR f_VR z_VR s_VA f_VA z_VA
      have S143 := b143.size
      simp only [World.size_alloc] at S143
      replace VR := VR.kept b143
      replace VA := VA.kept b143
      replace O1 := O1.kept b143
      replace B := thenB B b143
      clear b143
      obtain ⟨s_VR, f_VR, z_VR⟩ := VR.open
      obtain ⟨s_VA, f_VA, z_VA⟩ := VA.open
      have Bo := B
      clear O3
      replace VR := VR.kept (belowA w143 (.cells #[.int .i64 0, .int .i64 kk2, .slice c3 kl2 d3] 33))
      replace VA := VA.kept (belowA w143 (.cells #[.int .i64 0, .int .i64 kk2, .slice c3 kl2 d3] 33))
      replace O1 := O1.kept (belowA w143 (.cells #[.int .i64 0, .int .i64 kk2, .slice c3 kl2 d3] 33))
      replace B := thenB B (belowA w143 (.cells #[.int .i64 0, .int .i64 kk2, .slice c3 kl2 d3] 33))
      have VO := V.new w143 [.int .i64 0, .int .i64 kk2, .slice c3 kl2 d3] 33
      clear s_VR f_VR z_VR s_VA f_VA z_VA
      obtain ⟨s_VR, f_VR, z_VR⟩ := VR.open
      obtain ⟨s_VA, f_VA, z_VA⟩ := VA.open
      obtain ⟨s_VO, f_VO, z_VO⟩ := VO.open
      replace Bo := B
      go_wp2_with fail
      refine (CT.out _ _ _ O1.rd).mono ?_
      rintro e w144 ⟨c4, d4, rfl, O4, b144⟩
      clear s_VR f_VR z_VR s_VA f_VA z_VA s_VO f_VO z_VO
      have S144 := b144.size
      simp only [World.size_alloc] at S144
      replace VR := VR.kept b144
      replace VA := VA.kept b144
      replace VO := VO.kept b144
      replace O1 := O1.kept b144
      replace B := thenB B b144
      clear b144
      obtain ⟨s_VR, f_VR, z_VR⟩ := VR.open
      obtain ⟨s_VA, f_VA, z_VA⟩ := VA.open
      obtain ⟨s_VO, f_VO, z_VO⟩ := VO.open
      have Bo := B
      clear O4
      replace VR := VR.kept (belowA w144 (.cells #[.int .i64 0, .int .i64 kk3, .slice c4 kl3 d4] 33))
      replace VA := VA.kept (belowA w144 (.cells #[.int .i64 0, .int .i64 kk3, .slice c4 kl3 d4] 33))
      replace VO := VO.kept (belowA w144 (.cells #[.int .i64 0, .int .i64 kk3, .slice c4 kl3 d4] 33))
      replace O1 := O1.kept (belowA w144 (.cells #[.int .i64 0, .int .i64 kk3, .slice c4 kl3 d4] 33))
      replace B := thenB B (belowA w144 (.cells #[.int .i64 0, .int .i64 kk3, .slice c4 kl3 d4] 33))
      have VT := V.new w144 [.int .i64 0, .int .i64 kk3, .slice c4 kl3 d4] 33
      clear s_VR f_VR z_VR s_VA f_VA z_VA s_VO f_VO z_VO
      obtain ⟨s_VR, f_VR, z_VR⟩ := VR.open
      obtain ⟨s_VA, f_VA, z_VA⟩ := VA.open
      obtain ⟨s_VO, f_VO, z_VO⟩ := VO.open
      obtain ⟨s_VT, f_VT, z_VT⟩ := VT.open
      replace Bo := B
      cases x2 <;> cases x3
      · go_wp2
        go_ret
        exact ⟨rfl, HB0.out.trans (B.mono HB0.out.size)⟩
      · go_wp2
        go_ret
        exact ⟨rfl, HB0.out.trans (B.mono HB0.out.size)⟩
      · go_wp2
        go_ret
        exact ⟨rfl, HB0.out.trans (B.mono HB0.out.size)⟩
      · go_wp2
        go_ret
        exact ⟨rfl, HB0.out.trans (B.mono HB0.out.size)⟩

end Go.Proofs.Ythkmoabkeblbjaa
