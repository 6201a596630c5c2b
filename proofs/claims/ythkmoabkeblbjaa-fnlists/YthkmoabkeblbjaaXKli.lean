/- The law FnLists: its walk. -/
import Derived.Test.YthkmoabkeblbjaaKzL
import Derived.Test.YthkmoabkeblbjaaKzI
import Derived.Test.YthkmoabkeblbjaaKyL
import Derived.Test.YthkmoabkeblbjaaTmY
import Derived.Test.YthkmoabkeblbjaaLwN
import Derived.Test.YthkmoabkeblbjaaTmQ
namespace Go.Proofs.Ythkmoabkeblbjaa
open Go.RowKit

theorem lists_ways (xs : List T4) (os : List Int) (hl : os.length ≤ 20) : ((plT xs os).c ≠ 0) ∨ ((plT xs os).c = 0 ∧ os = [] ∧ tfC (plT xs os).l = 0 ∧ naR (plT xs os).l (plT xs os).k = (0, 0)) ∨ ((plT xs os).c = 0 ∧ os ≠ [] ∧ tfC (plT xs os).l = 0 ∧ slR (plT xs os).l (plT xs os).k os.length = (0, os)) := by
  rcases plT_ways xs os with ⟨h1, e⟩ | ⟨_, _, e⟩ | ⟨h1, h2, e⟩
  · exact .inl (by rw [e]; exact h1)
  · exact .inl (by rw [e]; show (3 : Int) ≠ 0; decide)
  · rw [e]
    by_cases hc : (plP xs os).c = 0
    · right
      by_cases ho : os = []
      · subst ho
        exact .inl ⟨hc, rfl, (plP_none h1 hc).1, lists_none h1 hc⟩
      · have hz : ∀ z ∈ os, 0 ≤ z ∧ z < xs.length := fun z hz => by
          rw [List.all_eq_true] at h2
          have := btw_iff.1 (h2 z hz)
          omega
        have := lists_some h1 ho hl hz hc
        exact .inr ⟨hc, ho, this.2, this.1⟩
    · exact .inl hc

theorem extractL0 (u v : Value) (w : World) : (Instr.extract (.tuple #[u, v]) 0).run Try.prog w = .ok u w := by kernel_rfl

theorem extractL1 (u v : Value) (w : World) : (Instr.extract (.tuple #[u, v]) 1).run Try.prog w = .ok v w := by kernel_rfl

set_option maxRecDepth 20000 in
set_option maxHeartbeats 8000000 in
theorem xKli_walk (a : Option Addr) (n ca : Nat) (zs : List Int) (w : World) (ha : Rd .u8 w a zs) (hb : Bytes zs) (hn : zs.length = n) :
    Calls Try.prog 5 #[.slice a n ca] w fun e w' => e = .returned (.bool true) ∧ Below w.heap.size w w' := by
  by_cases hbig : 1048576 < n
  · have h1 : (1048576 : Int) < (n : Int) := by omega
    go_enter Try.func5, Try.ntmps5
    go_wp2_with (first | (go_at_call 13; go_in) | fail)
    go_ret
    exact ⟨rfl, Below.refl _ _⟩
  have h1 : ¬ (1048576 : Int) < (n : Int) := by omega
  have CD := Hid.mk (drawPutList_ok a n ca zs w ha hb hn (by omega))
  clear ha hb hn hbig
  go_enter Try.func5, Try.ntmps5
  go_wp2_with (first | (go_at_call 13; go_in) | fail)
  refine CD.out.mono ?_
  rintro e wA ⟨c, d, m, xs, gg, e2, os, rfl, ⟨hlen, hm, hcap, hnc, hok⟩, ⟨hos, hoc, hgl⟩, RX, RO, B0⟩
  have e0 := extractL0
  have e1 := extractL1
  obtain ⟨m2, hm2⟩ : ∃ q, os.length = q := ⟨_, rfl⟩
  have hways := lists_ways xs os (by omega)
  rw [hm2] at hos hoc hways ⊢
  have CI := Hid.mk (fun w h hr hl => implPutList_ok c m d xs (some ⟨gg, 0, none⟩) m2 e2 os w h hlen (by omega) hok hr hm2 (by omega) hl)
  have CS := Hid.mk (fun w h hr => specPutList_ok c m d xs (some ⟨gg, 0, none⟩) m2 e2 os w h hlen (by omega) hcap hnc hr hm2 hoc (by omega))
  have HB0 := Hid.mk B0
  have HR := Hid.mk RX
  have HO := Hid.mk RO
  have HGL : Hid (∀ b : Addr, (some ⟨gg, 0, none⟩ : Option Addr) = some b → b.block < wA.heap.size) := Hid.mk (fun b hb => by simp only [Option.some.injEq] at hb; subst hb; exact hgl)
  clear B0 CD RX RO hcap hnc hlen hok hoc hgl
  have B := Below.refl wA.heap.size wA
  rcases hways with h3 | ⟨h3, hos0, hz, hna⟩ | ⟨h3, hos0, hz, hsl⟩
  · skip
    generalize plT xs os = P at *
    obtain ⟨kc, kk, ls⟩ := P
    simp only at *
    obtain ⟨kl, hkl⟩ : ∃ kl, ls.length = kl := ⟨_, rfl⟩
    rw [hkl] at CI CS
    have qf : ∀ (c : Option Addr) (d : Nat) (w : World), (Instr.field 33 (.agg #[.int .i64 kc, .int .i64 kk, .slice c kl d]) 0).run Try.prog w = .ok (.int .i64 kc) w := fun c d w => by kernel_rfl
    have h3' : (kc != 0) = true := by simp [h3]
    have h4' : (kc == kc) = true := by simp
    clear h3 hkl
    go_wp2_with fail
    refine (CI.out _ (HR.out.kept B) (HO.out.kept B) HGL).mono ?_
    rintro e w1 ⟨c1, d1, rfl, O1, b1⟩
    have S1 := b1.size
    replace B := thenB B b1
    clear b1
    have Bo := B
    replace O1 := O1.kept (belowA w1 (.cells #[.int .i64 kc, .int .i64 kk, .slice c1 kl d1] 33))
    replace B := thenB B (belowA w1 (.cells #[.int .i64 kc, .int .i64 kk, .slice c1 kl d1] 33))
    have VR := V.new w1 [.int .i64 kc, .int .i64 kk, .slice c1 kl d1] 33
    obtain ⟨s_VR, f_VR, z_VR⟩ := VR.open
    have Bo := B
    go_upto_region 6 with fail
    clear s_VR f_VR z_VR
    have K : ∀ w' : World, Below (w1.alloc (.cells #[.int .i64 kc, .int .i64 kk, .slice c1 kl d1] 33)).heap.size (w1.alloc (.cells #[.int .i64 kc, .int .i64 kk, .slice c1 kl d1] 33)) w' → (w'.cell? ⟨w1.heap.size, 0, none⟩ = some (.int .i64 kc) ∧ w'.cell? ⟨w1.heap.size, 1, none⟩ = some (.int .i64 kk) ∧ w'.cell? ⟨w1.heap.size, 2, none⟩ = some (.slice c1 kl d1)) := fun w' h => ⟨(VR.kept h).2.1 0 (by simp), (VR.kept h).2.1 1 (by simp), (VR.kept h).2.1 2 (by simp)⟩
    have K := Hid.mk K
    refine wp_region_held_drew (S := (fun w' => w'.cell? ⟨w1.heap.size, 0, none⟩ = some (.int .i64 kc) ∧ w'.cell? ⟨w1.heap.size, 1, none⟩ = some (.int .i64 kk) ∧ w'.cell? ⟨w1.heap.size, 2, none⟩ = some (.slice c1 kl d1))) (by kernel_rfl) (K.out _ (Below.refl _ _).drew) (fun hHeld => ?_)
    refine wpAnyH_take (i := 0) (oi := _) (v := ?vz1u1) rfl (by kernel_rfl) (by kernel_rfl) (by kernel_rfl) (fun _ _ _ h => h) (Or.inl ⟨by kernel_rfl, ?hyz1u1⟩) hHeld ?restz1u1
    case hyz1u1 => (intro w hSw; (try dsimp only at hSw); go_simp; first | done | with_reducible rfl)
    try simp only [Act.put, List.getElem_toArray, List.getElem_cons_zero, List.setIfInBounds_toArray, List.set_cons_zero, List.set_cons_succ]
    refine wpAnyH_take (i := 1) (oi := _) (v := ?vz1u2) rfl (by kernel_rfl) (by kernel_rfl) (by kernel_rfl) (fun _ _ _ h => h) (Or.inl ⟨by kernel_rfl, ?hyz1u2⟩) hHeld ?restz1u2
    case hyz1u2 => (intro w hSw; (try dsimp only at hSw); go_simp; first | done | with_reducible rfl)
    try simp only [Act.put, List.getElem_toArray, List.getElem_cons_zero, List.getElem_cons_succ, List.setIfInBounds_toArray, List.set_cons_zero, List.set_cons_succ]
    refine wpAnyH_take (i := 4) (oi := _) (v := ?vz1u3) rfl (by kernel_rfl) (by kernel_rfl) (by kernel_rfl) (fun _ _ _ h => h) (Or.inl ⟨by kernel_rfl, ?hyz1u3⟩) hHeld ?restz1u3
    case hyz1u3 => (intro w hSw; (try dsimp only at hSw); go_simp; first | done | with_reducible rfl)
    try simp only [Act.put, List.getElem_toArray, List.getElem_cons_zero, List.getElem_cons_succ, List.setIfInBounds_toArray, List.set_cons_zero, List.set_cons_succ]
    refine wpAnyH_take (i := 5) (oi := _) (v := ?vz1u4) rfl (by kernel_rfl) (by kernel_rfl) (by kernel_rfl) (fun _ _ _ h => h) (Or.inl ⟨by kernel_rfl, ?hyz1u4⟩) hHeld ?restz1u4
    case hyz1u4 => (intro w hSw; (try dsimp only at hSw); go_simp; first | done | with_reducible rfl)
    try simp only [Act.put, List.getElem_toArray, List.getElem_cons_zero, List.getElem_cons_succ, List.setIfInBounds_toArray, List.set_cons_zero, List.set_cons_succ]
    refine wpAnyH_ready (rs := [2]) (by kernel_rfl) (by simp) ?_
    refine AllReadyH.cons (o := _) rfl (fun K0 hK0 => ?_) AllReadyH.nil
    go_simp
    go_at_call 29
    refine (CS.out _ ((HR.out.kept B).kept (Below.refl _ _).drew) ((HO.out.kept B).kept (Below.refl _ _).drew)).mono ?_
    rintro e wz1v5 ⟨c2, d2, rfl, _, bz1v5⟩
    refine hK0.out _ _ (K.out _ (thenB (Below.refl _ _).drew bz1v5)) (fun hHeld => ?_)
    clear hK0 K0
    try simp only [Act.put, List.getElem_toArray, List.getElem_cons_zero, List.getElem_cons_succ, List.setIfInBounds_toArray, List.set_cons_zero, List.set_cons_succ]
    refine wpAnyH_take (i := 3) (oi := _) (v := ?vz1u6) rfl (by kernel_rfl) (by kernel_rfl) (by kernel_rfl) (fun _ _ _ h => h) (Or.inl ⟨by kernel_rfl, ?hyz1u6⟩) hHeld ?restz1u6
    case hyz1u6 => (intro w hSw; (try dsimp only at hSw); go_simp; first | done | with_reducible rfl)
    try simp only [Act.put, List.getElem_toArray, List.getElem_cons_zero, List.getElem_cons_succ, List.setIfInBounds_toArray, List.set_cons_zero, List.set_cons_succ]
    refine wpAnyH_take (i := 6) (oi := _) (v := ?vz1u7) rfl (by kernel_rfl) (by kernel_rfl) (by kernel_rfl) (fun _ _ _ h => h) (Or.inl ⟨by kernel_rfl, ?hyz1u7⟩) hHeld ?restz1u7
    case hyz1u7 => (intro w hSw; (try dsimp only at hSw); go_simp; first | done | with_reducible rfl)
    try simp only [Act.put, List.getElem_toArray, List.getElem_cons_zero, List.getElem_cons_succ, List.setIfInBounds_toArray, List.set_cons_zero, List.set_cons_succ]
    refine wpAnyH_take (i := 7) (oi := _) (v := ?vz1u8) rfl (by kernel_rfl) (by kernel_rfl) (by kernel_rfl) (fun _ _ _ h => h) (Or.inl ⟨by kernel_rfl, ?hyz1u8⟩) hHeld ?restz1u8
    case hyz1u8 => (intro w hSw; (try dsimp only at hSw); go_simp; first | done | with_reducible rfl)
    try simp only [Act.put, List.getElem_toArray, List.getElem_cons_zero, List.getElem_cons_succ, List.setIfInBounds_toArray, List.set_cons_zero, List.set_cons_succ]
    refine wpAnyH_done (by kernel_rfl) ?_ _
    clear K hHeld
    have bacc : Below (w1.alloc (.cells #[.int .i64 kc, .int .i64 kk, .slice c1 kl d1] 33)).heap.size (w1.alloc (.cells #[.int .i64 kc, .int .i64 kk, .slice c1 kl d1] 33)) wz1v5 := (thenB (Below.refl _ _).drew bz1v5)
    replace VR := VR.kept bacc
    replace O1 := O1.kept bacc
    replace B := thenB B bacc
    have Sz1 := (bacc).size
    clear bacc
    simp only [World.size_alloc] at Sz1
    clear bz1v5
    obtain ⟨s_VR, f_VR, z_VR⟩ := VR.open
    have Bo := B
    go_wp2
    go_ret
    exact ⟨rfl, HB0.out.trans (B.mono HB0.out.size)⟩
  · subst hos0
    obtain rfl : m2 = 0 := hm2.symm
    generalize plT xs [] = P at *
    obtain ⟨kc, kk, ls⟩ := P
    simp only at *
    obtain ⟨kl, hkl⟩ : ∃ kl, ls.length = kl := ⟨_, rfl⟩
    rw [hkl] at CI CS
    subst h3
    have hl4 := (tfC_zero hz).1
    have CN := Hid.mk (fun c d w h => implNameAt_ok c kl d ls kk w h hkl (by omega) (right_ok hz))
    rw [hna] at CN
    simp only at CN
    have qf : ∀ (w : World) (i : Nat), i = 0 ∨ i = 1 → (Instr.field 51 (.agg #[.int .i64 0, .int .i64 0]) i).run Try.prog w = .ok (.int .i64 0) w := fun w i h => by rcases h with rfl | rfl <;> kernel_rfl
    have qf0 := fun w => qf w 0 (.inl rfl)
    have qf1 := fun w => qf w 1 (.inr rfl)
    clear hz hna qf CS
    go_wp2_with fail
    refine (CI.out _ (HR.out.kept B) (HO.out.kept B) HGL).mono ?_
    rintro e w21 ⟨c1, d1, rfl, O1, b21⟩
    have S21 := b21.size
    replace B := thenB B b21
    clear b21
    have Bo := B
    replace O1 := O1.kept (belowA w21 (.cells #[.int .i64 0, .int .i64 kk, .slice c1 kl d1] 33))
    replace B := thenB B (belowA w21 (.cells #[.int .i64 0, .int .i64 kk, .slice c1 kl d1] 33))
    have VR := V.new w21 [.int .i64 0, .int .i64 kk, .slice c1 kl d1] 33
    obtain ⟨s_VR, f_VR, z_VR⟩ := VR.open
    have Bo := B
    go_wp2_with fail
    refine (CN.out _ _ _ O1.rd).mono ?_
    rintro e w22 ⟨rfl, b22⟩
    clear s_VR f_VR z_VR
    have S22 := b22.size
    simp only [World.size_alloc] at S22
    replace VR := VR.kept b22
    replace O1 := O1.kept b22
    replace B := thenB B b22
    clear b22
    obtain ⟨s_VR, f_VR, z_VR⟩ := VR.open
    have Bo := B
    go_wp2_with fail
    refine (CN.out _ _ _ O1.rd).mono ?_
    rintro e w23 ⟨rfl, b23⟩
    clear s_VR f_VR z_VR
    have S23 := b23.size
    replace VR := VR.kept b23
    replace O1 := O1.kept b23
    replace B := thenB B b23
    clear b23
    obtain ⟨s_VR, f_VR, z_VR⟩ := VR.open
    have Bo := B
    go_wp2
    go_ret
    exact ⟨rfl, HB0.out.trans (B.mono HB0.out.size)⟩
  · have hm0 : m2 ≠ 0 := fun e => hos0 (List.length_eq_zero_iff.1 (by omega))
    have hmz : ((m2 : Int) == 0) = false := by simp; omega
    generalize plT xs os = P at *
    obtain ⟨kc, kk, ls⟩ := P
    simp only at *
    obtain ⟨kl, hkl⟩ : ∃ kl, ls.length = kl := ⟨_, rfl⟩
    rw [hkl] at CI CS
    subst h3
    have hl4 := (tfC_zero hz).1
    have CN := Hid.mk (fun c d w h => implSplitList_ok c kl d ls kk (m2 : Int) w h hkl (by omega) (right_ok hz))
    rw [hsl] at CN
    simp only at CN
    rw [hm2] at CN
    have CT := Hid.mk (fun c d w h => implTermsFault_ok c kl d ls w h hkl (by unfold maxLen; omega) (right_ok hz))
    rw [hz] at CT
    have CW := Hid.mk (fun a b ca cb w h h2 => lwNums9_ok a b m2 ca cb os w h h2 hm2 (by unfold maxLen; omega))
    clear hz hsl CS hm0 hos0
    go_wp2_with fail
    refine (CI.out _ (HR.out.kept B) (HO.out.kept B) HGL).mono ?_
    rintro e w41 ⟨c1, d1, rfl, O1, b41⟩
    have S41 := b41.size
    replace B := thenB B b41
    clear b41
    have Bo := B
    replace O1 := O1.kept (belowA w41 (.cells #[.int .i64 0, .int .i64 kk, .slice c1 kl d1] 33))
    replace B := thenB B (belowA w41 (.cells #[.int .i64 0, .int .i64 kk, .slice c1 kl d1] 33))
    have VR := V.new w41 [.int .i64 0, .int .i64 kk, .slice c1 kl d1] 33
    obtain ⟨s_VR, f_VR, z_VR⟩ := VR.open
    have Bo := B
    go_wp2_with fail
    refine (CN.out _ _ _ O1.rd).mono ?_
    rintro e w42 ⟨c2, d2, rfl, O2, b42⟩
    clear s_VR f_VR z_VR
    have S42 := b42.size
    simp only [World.size_alloc] at S42
    replace VR := VR.kept b42
    replace O1 := O1.kept b42
    replace B := thenB B b42
    clear b42
    obtain ⟨s_VR, f_VR, z_VR⟩ := VR.open
    have Bo := B
    replace VR := VR.kept (belowA w42 (.cells #[.int .i64 0, .slice c2 m2 d2] 42))
    replace O1 := O1.kept (belowA w42 (.cells #[.int .i64 0, .slice c2 m2 d2] 42))
    replace O2 := O2.kept (belowA w42 (.cells #[.int .i64 0, .slice c2 m2 d2] 42))
    replace B := thenB B (belowA w42 (.cells #[.int .i64 0, .slice c2 m2 d2] 42))
    have VS := V.new w42 [.int .i64 0, .slice c2 m2 d2] 42
    clear s_VR f_VR z_VR
    obtain ⟨s_VR, f_VR, z_VR⟩ := VR.open
    obtain ⟨s_VS, f_VS, z_VS⟩ := VS.open
    replace Bo := B
    go_wp2_with fail
    refine (CW.out _ _ _ _ _ O2.rd (HO.out.kept B)).mono ?_
    rintro e w43 ⟨rfl, b43⟩
    clear s_VR f_VR z_VR s_VS f_VS z_VS
    have S43 := b43.size
    simp only [World.size_alloc] at S43
    replace VR := VR.kept b43
    replace VS := VS.kept b43
    replace O1 := O1.kept b43
    replace O2 := O2.kept b43
    replace B := thenB B b43
    clear b43
    obtain ⟨s_VR, f_VR, z_VR⟩ := VR.open
    obtain ⟨s_VS, f_VS, z_VS⟩ := VS.open
    have Bo := B
    go_wp2_with fail
    refine (CT.out _ _ _ O1.rd).mono ?_
    rintro e w44 ⟨rfl, b44⟩
    clear s_VR f_VR z_VR s_VS f_VS z_VS
    have S44 := b44.size
    replace VR := VR.kept b44
    replace VS := VS.kept b44
    replace O1 := O1.kept b44
    replace O2 := O2.kept b44
    replace B := thenB B b44
    clear b44
    obtain ⟨s_VR, f_VR, z_VR⟩ := VR.open
    obtain ⟨s_VS, f_VS, z_VS⟩ := VS.open
    have Bo := B
    go_wp2
    go_ret
    exact ⟨rfl, HB0.out.trans (B.mono HB0.out.size)⟩

end Go.Proofs.Ythkmoabkeblbjaa
