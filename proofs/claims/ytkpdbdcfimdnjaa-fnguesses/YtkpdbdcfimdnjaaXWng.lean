/- The law FnGuesses: its walk. -/
import Derived.Test.YtkpdbdcfimdnjaaWnL
namespace Go.Proofs.Ytkpdbdcfimdnjaa
open Go.RowKit

set_option maxRecDepth 20000 in
set_option maxHeartbeats 16000000 in
theorem xWng_walk (a : Option Addr) (n ca : Nat) (zs : List Int) (w : World) (ha : Rd .u8 w a zs) (hb : Bytes zs) (hn : zs.length = n) :
    Calls Try.prog 4 #[.slice a n ca] w fun e w' => e = .returned (.bool true) ∧ Below w.heap.size w w' := by
  by_cases hbig : 1048576 < n
  · have h1 : (1048576 : Int) < (n : Int) := by omega
    go_enter Try.func4, Try.ntmps4
    go_wp2_with (first | (go_at_call 12; go_in) | fail)
    go_ret
    exact ⟨rfl, Below.refl _ _⟩
  have h1 : ¬ (1048576 : Int) < (n : Int) := by omega
  have CD := Hid.mk (drawTakeSeq_ok a n ca zs w ha hb hn (by omega))
  clear ha hb hn hbig
  go_enter Try.func4, Try.ntmps4
  go_wp2_with (first | (go_at_call 12; go_in) | fail)
  refine CD.out.mono ?_
  rintro e wA ⟨y, s, rfl, hy, hs, HB⟩
  have HB0 := Hid.mk HB
  have e0 := extractW0
  have e1 := extractW1
  have qf := fieldWR0
  have qi := fieldIR0
  have qe := eql_wr
  have CS := Hid.mk (fun w => specWF_ok y w)
  have CTi := Hid.mk (fun w => implTake_ok y s hs w)
  have CTs := Hid.mk (fun w => specTake_ok y s hs w)
  clear CD HB
  have B := Below.refl wA.heap.size wA
  by_cases hw : wF y = 0
  · simp only [hw] at CS
    by_cases hr1 : s < 1
    · have d1 : decide (s < 1) = true := by simp [hr1]
      clear hw hr1
      replace B := thenB B (belowA wA (.cells #[.int .i64 y.t, .int .i64 y.b] 25))
      have VA := V.new wA [.int .i64 y.t, .int .i64 y.b] 25
      obtain ⟨s_VA, f_VA, z_VA⟩ := VA.open
      have Bo := B
      go_wp2_with fail
      refine (CS.out _).mono ?_
      rintro e w11 ⟨rfl, b11⟩
      clear s_VA f_VA z_VA
      have S11 := b11.size
      simp only [World.size_alloc] at S11
      replace VA := VA.kept b11
      replace B := thenB B b11
      clear b11
      obtain ⟨s_VA, f_VA, z_VA⟩ := VA.open
      have Bo := B
      generalize tsR y s = P at *
      obtain ⟨kc, kn, u⟩ := P
      simp only at CTi CTs
      have hkk : (kc == kc) = true := by simp
      go_upto_region 5 with fail
      clear s_VA f_VA z_VA
      have K : ∀ w' : World, Below w11.heap.size w11 w' → (w'.cell? ⟨wA.heap.size, 0, none⟩ = some (.int .i64 y.t) ∧ w'.cell? ⟨wA.heap.size, 1, none⟩ = some (.int .i64 y.b)) := fun w' h => ⟨(VA.kept h).2.1 0 (by simp), (VA.kept h).2.1 1 (by simp)⟩
      have K := Hid.mk K
      refine wp_region_held_drew (S := (fun w' => w'.cell? ⟨wA.heap.size, 0, none⟩ = some (.int .i64 y.t) ∧ w'.cell? ⟨wA.heap.size, 1, none⟩ = some (.int .i64 y.b))) (by kernel_rfl) (K.out _ (Below.refl _ _).drew) (fun hHeld => ?_)
      refine wpAnyH_take (i := 0) (oi := _) (v := ?vz11u1) rfl (by kernel_rfl) (by kernel_rfl) (by kernel_rfl) (fun _ _ _ h => h) (Or.inl ⟨by kernel_rfl, ?hyz11u1⟩) hHeld ?restz11u1
      case hyz11u1 => (intro w hSw; (try dsimp only at hSw); go_simp; first | done | with_reducible rfl)
      try simp only [Act.put, List.getElem_toArray, List.getElem_cons_zero, List.setIfInBounds_toArray, List.set_cons_zero, List.set_cons_succ]
      refine wpAnyH_take (i := 1) (oi := _) (v := ?vz11u2) rfl (by kernel_rfl) (by kernel_rfl) (by kernel_rfl) (fun _ _ _ h => h) (Or.inl ⟨by kernel_rfl, ?hyz11u2⟩) hHeld ?restz11u2
      case hyz11u2 => (intro w hSw; (try dsimp only at hSw); go_simp; first | done | with_reducible rfl)
      try simp only [Act.put, List.getElem_toArray, List.getElem_cons_zero, List.getElem_cons_succ, List.setIfInBounds_toArray, List.set_cons_zero, List.set_cons_succ]
      refine wpAnyH_take (i := 4) (oi := _) (v := ?vz11u3) rfl (by kernel_rfl) (by kernel_rfl) (by kernel_rfl) (fun _ _ _ h => h) (Or.inl ⟨by kernel_rfl, ?hyz11u3⟩) hHeld ?restz11u3
      case hyz11u3 => (intro w hSw; (try dsimp only at hSw); go_simp; first | done | with_reducible rfl)
      try simp only [Act.put, List.getElem_toArray, List.getElem_cons_zero, List.getElem_cons_succ, List.setIfInBounds_toArray, List.set_cons_zero, List.set_cons_succ]
      refine wpAnyH_take (i := 5) (oi := _) (v := ?vz11u4) rfl (by kernel_rfl) (by kernel_rfl) (by kernel_rfl) (fun _ _ _ h => h) (Or.inl ⟨by kernel_rfl, ?hyz11u4⟩) hHeld ?restz11u4
      case hyz11u4 => (intro w hSw; (try dsimp only at hSw); go_simp; first | done | with_reducible rfl)
      try simp only [Act.put, List.getElem_toArray, List.getElem_cons_zero, List.getElem_cons_succ, List.setIfInBounds_toArray, List.set_cons_zero, List.set_cons_succ]
      refine wpAnyH_ready (rs := [2]) (by kernel_rfl) (by simp) ?_
      refine AllReadyH.cons (o := _) rfl (fun K0 hK0 => ?_) AllReadyH.nil
      go_simp
      go_at_call 18
      refine (CTi.out _).mono ?_
      rintro e wz11v5 ⟨rfl, bz11v5⟩
      refine hK0.out _ _ (K.out _ (thenB (Below.refl _ _).drew bz11v5)) (fun hHeld => ?_)
      clear hK0 K0
      try simp only [Act.put, List.getElem_toArray, List.getElem_cons_zero, List.getElem_cons_succ, List.setIfInBounds_toArray, List.set_cons_zero, List.set_cons_succ]
      refine wpAnyH_take (i := 3) (oi := _) (v := ?vz11u6) rfl (by kernel_rfl) (by kernel_rfl) (by kernel_rfl) (fun _ _ _ h => h) (Or.inl ⟨by kernel_rfl, ?hyz11u6⟩) hHeld ?restz11u6
      case hyz11u6 => (intro w hSw; (try dsimp only at hSw); go_simp; first | done | with_reducible rfl)
      try simp only [Act.put, List.getElem_toArray, List.getElem_cons_zero, List.getElem_cons_succ, List.setIfInBounds_toArray, List.set_cons_zero, List.set_cons_succ]
      refine wpAnyH_ready (rs := [6]) (by kernel_rfl) (by simp) ?_
      refine AllReadyH.cons (o := _) rfl (fun K0 hK0 => ?_) AllReadyH.nil
      go_simp
      go_at_call 23
      refine (CTs.out _).mono ?_
      rintro e wz11v7 ⟨rfl, bz11v7⟩
      refine hK0.out _ _ (K.out _ (thenB (thenB (Below.refl _ _).drew bz11v5) bz11v7)) (fun hHeld => ?_)
      clear hK0 K0
      try simp only [Act.put, List.getElem_toArray, List.getElem_cons_zero, List.getElem_cons_succ, List.setIfInBounds_toArray, List.set_cons_zero, List.set_cons_succ]
      refine wpAnyH_take (i := 7) (oi := _) (v := ?vz11u8) rfl (by kernel_rfl) (by kernel_rfl) (by kernel_rfl) (fun _ _ _ h => h) (Or.inl ⟨by kernel_rfl, ?hyz11u8⟩) hHeld ?restz11u8
      case hyz11u8 => (intro w hSw; (try dsimp only at hSw); go_simp; first | done | with_reducible rfl)
      try simp only [Act.put, List.getElem_toArray, List.getElem_cons_zero, List.getElem_cons_succ, List.setIfInBounds_toArray, List.set_cons_zero, List.set_cons_succ]
      refine wpAnyH_take (i := 8) (oi := _) (v := ?vz11u9) rfl (by kernel_rfl) (by kernel_rfl) (by kernel_rfl) (fun _ _ _ h => h) (Or.inl ⟨by kernel_rfl, ?hyz11u9⟩) hHeld ?restz11u9
      case hyz11u9 => (intro w hSw; (try dsimp only at hSw); go_simp; first | done | with_reducible rfl)
      try simp only [Act.put, List.getElem_toArray, List.getElem_cons_zero, List.getElem_cons_succ, List.setIfInBounds_toArray, List.set_cons_zero, List.set_cons_succ]
      refine wpAnyH_take (i := 9) (oi := _) (v := ?vz11u10) rfl (by kernel_rfl) (by kernel_rfl) (by kernel_rfl) (fun _ _ _ h => h) (Or.inl ⟨by kernel_rfl, ?hyz11u10⟩) hHeld ?restz11u10
      case hyz11u10 => (intro w hSw; (try dsimp only at hSw); go_simp; first | done | with_reducible rfl)
      try simp only [Act.put, List.getElem_toArray, List.getElem_cons_zero, List.getElem_cons_succ, List.setIfInBounds_toArray, List.set_cons_zero, List.set_cons_succ]
      refine wpAnyH_done (by kernel_rfl) ?_ _
      clear K hHeld
      have bacc : Below w11.heap.size w11 wz11v7 := (thenB (thenB (Below.refl _ _).drew bz11v5) bz11v7)
      replace VA := VA.kept bacc
      replace B := thenB B bacc
      have Sz11 := (bacc).size
      clear bacc
      clear bz11v5 bz11v7
      obtain ⟨s_VA, f_VA, z_VA⟩ := VA.open
      have Bo := B
      go_wp2
      go_ret
      exact ⟨rfl, HB0.out.trans (Bo.mono HB0.out.size)⟩
    · have d1 : decide (s < 1) = false := by simp; omega
      by_cases hr2 : 1099511627776 < s
      · have d2 : decide (1099511627776 < s) = true := by simp [hr2]
        clear hw hr1 hr2
        replace B := thenB B (belowA wA (.cells #[.int .i64 y.t, .int .i64 y.b] 25))
        have VA := V.new wA [.int .i64 y.t, .int .i64 y.b] 25
        obtain ⟨s_VA, f_VA, z_VA⟩ := VA.open
        have Bo := B
        go_wp2_with fail
        refine (CS.out _).mono ?_
        rintro e w31 ⟨rfl, b31⟩
        clear s_VA f_VA z_VA
        have S31 := b31.size
        simp only [World.size_alloc] at S31
        replace VA := VA.kept b31
        replace B := thenB B b31
        clear b31
        obtain ⟨s_VA, f_VA, z_VA⟩ := VA.open
        have Bo := B
        generalize tsR y s = P at *
        obtain ⟨kc, kn, u⟩ := P
        simp only at CTi CTs
        have hkk : (kc == kc) = true := by simp
        go_upto_region 5 with fail
        clear s_VA f_VA z_VA
        have K : ∀ w' : World, Below w31.heap.size w31 w' → (w'.cell? ⟨wA.heap.size, 0, none⟩ = some (.int .i64 y.t) ∧ w'.cell? ⟨wA.heap.size, 1, none⟩ = some (.int .i64 y.b)) := fun w' h => ⟨(VA.kept h).2.1 0 (by simp), (VA.kept h).2.1 1 (by simp)⟩
        have K := Hid.mk K
        refine wp_region_held_drew (S := (fun w' => w'.cell? ⟨wA.heap.size, 0, none⟩ = some (.int .i64 y.t) ∧ w'.cell? ⟨wA.heap.size, 1, none⟩ = some (.int .i64 y.b))) (by kernel_rfl) (K.out _ (Below.refl _ _).drew) (fun hHeld => ?_)
        refine wpAnyH_take (i := 0) (oi := _) (v := ?vz31u1) rfl (by kernel_rfl) (by kernel_rfl) (by kernel_rfl) (fun _ _ _ h => h) (Or.inl ⟨by kernel_rfl, ?hyz31u1⟩) hHeld ?restz31u1
        case hyz31u1 => (intro w hSw; (try dsimp only at hSw); go_simp; first | done | with_reducible rfl)
        try simp only [Act.put, List.getElem_toArray, List.getElem_cons_zero, List.setIfInBounds_toArray, List.set_cons_zero, List.set_cons_succ]
        refine wpAnyH_take (i := 1) (oi := _) (v := ?vz31u2) rfl (by kernel_rfl) (by kernel_rfl) (by kernel_rfl) (fun _ _ _ h => h) (Or.inl ⟨by kernel_rfl, ?hyz31u2⟩) hHeld ?restz31u2
        case hyz31u2 => (intro w hSw; (try dsimp only at hSw); go_simp; first | done | with_reducible rfl)
        try simp only [Act.put, List.getElem_toArray, List.getElem_cons_zero, List.getElem_cons_succ, List.setIfInBounds_toArray, List.set_cons_zero, List.set_cons_succ]
        refine wpAnyH_take (i := 4) (oi := _) (v := ?vz31u3) rfl (by kernel_rfl) (by kernel_rfl) (by kernel_rfl) (fun _ _ _ h => h) (Or.inl ⟨by kernel_rfl, ?hyz31u3⟩) hHeld ?restz31u3
        case hyz31u3 => (intro w hSw; (try dsimp only at hSw); go_simp; first | done | with_reducible rfl)
        try simp only [Act.put, List.getElem_toArray, List.getElem_cons_zero, List.getElem_cons_succ, List.setIfInBounds_toArray, List.set_cons_zero, List.set_cons_succ]
        refine wpAnyH_take (i := 5) (oi := _) (v := ?vz31u4) rfl (by kernel_rfl) (by kernel_rfl) (by kernel_rfl) (fun _ _ _ h => h) (Or.inl ⟨by kernel_rfl, ?hyz31u4⟩) hHeld ?restz31u4
        case hyz31u4 => (intro w hSw; (try dsimp only at hSw); go_simp; first | done | with_reducible rfl)
        try simp only [Act.put, List.getElem_toArray, List.getElem_cons_zero, List.getElem_cons_succ, List.setIfInBounds_toArray, List.set_cons_zero, List.set_cons_succ]
        refine wpAnyH_ready (rs := [2]) (by kernel_rfl) (by simp) ?_
        refine AllReadyH.cons (o := _) rfl (fun K0 hK0 => ?_) AllReadyH.nil
        go_simp
        go_at_call 18
        refine (CTi.out _).mono ?_
        rintro e wz31v5 ⟨rfl, bz31v5⟩
        refine hK0.out _ _ (K.out _ (thenB (Below.refl _ _).drew bz31v5)) (fun hHeld => ?_)
        clear hK0 K0
        try simp only [Act.put, List.getElem_toArray, List.getElem_cons_zero, List.getElem_cons_succ, List.setIfInBounds_toArray, List.set_cons_zero, List.set_cons_succ]
        refine wpAnyH_take (i := 3) (oi := _) (v := ?vz31u6) rfl (by kernel_rfl) (by kernel_rfl) (by kernel_rfl) (fun _ _ _ h => h) (Or.inl ⟨by kernel_rfl, ?hyz31u6⟩) hHeld ?restz31u6
        case hyz31u6 => (intro w hSw; (try dsimp only at hSw); go_simp; first | done | with_reducible rfl)
        try simp only [Act.put, List.getElem_toArray, List.getElem_cons_zero, List.getElem_cons_succ, List.setIfInBounds_toArray, List.set_cons_zero, List.set_cons_succ]
        refine wpAnyH_ready (rs := [6]) (by kernel_rfl) (by simp) ?_
        refine AllReadyH.cons (o := _) rfl (fun K0 hK0 => ?_) AllReadyH.nil
        go_simp
        go_at_call 23
        refine (CTs.out _).mono ?_
        rintro e wz31v7 ⟨rfl, bz31v7⟩
        refine hK0.out _ _ (K.out _ (thenB (thenB (Below.refl _ _).drew bz31v5) bz31v7)) (fun hHeld => ?_)
        clear hK0 K0
        try simp only [Act.put, List.getElem_toArray, List.getElem_cons_zero, List.getElem_cons_succ, List.setIfInBounds_toArray, List.set_cons_zero, List.set_cons_succ]
        refine wpAnyH_take (i := 7) (oi := _) (v := ?vz31u8) rfl (by kernel_rfl) (by kernel_rfl) (by kernel_rfl) (fun _ _ _ h => h) (Or.inl ⟨by kernel_rfl, ?hyz31u8⟩) hHeld ?restz31u8
        case hyz31u8 => (intro w hSw; (try dsimp only at hSw); go_simp; first | done | with_reducible rfl)
        try simp only [Act.put, List.getElem_toArray, List.getElem_cons_zero, List.getElem_cons_succ, List.setIfInBounds_toArray, List.set_cons_zero, List.set_cons_succ]
        refine wpAnyH_take (i := 8) (oi := _) (v := ?vz31u9) rfl (by kernel_rfl) (by kernel_rfl) (by kernel_rfl) (fun _ _ _ h => h) (Or.inl ⟨by kernel_rfl, ?hyz31u9⟩) hHeld ?restz31u9
        case hyz31u9 => (intro w hSw; (try dsimp only at hSw); go_simp; first | done | with_reducible rfl)
        try simp only [Act.put, List.getElem_toArray, List.getElem_cons_zero, List.getElem_cons_succ, List.setIfInBounds_toArray, List.set_cons_zero, List.set_cons_succ]
        refine wpAnyH_take (i := 9) (oi := _) (v := ?vz31u10) rfl (by kernel_rfl) (by kernel_rfl) (by kernel_rfl) (fun _ _ _ h => h) (Or.inl ⟨by kernel_rfl, ?hyz31u10⟩) hHeld ?restz31u10
        case hyz31u10 => (intro w hSw; (try dsimp only at hSw); go_simp; first | done | with_reducible rfl)
        try simp only [Act.put, List.getElem_toArray, List.getElem_cons_zero, List.getElem_cons_succ, List.setIfInBounds_toArray, List.set_cons_zero, List.set_cons_succ]
        refine wpAnyH_done (by kernel_rfl) ?_ _
        clear K hHeld
        have bacc : Below w31.heap.size w31 wz31v7 := (thenB (thenB (Below.refl _ _).drew bz31v5) bz31v7)
        replace VA := VA.kept bacc
        replace B := thenB B bacc
        have Sz31 := (bacc).size
        clear bacc
        clear bz31v5 bz31v7
        obtain ⟨s_VA, f_VA, z_VA⟩ := VA.open
        have Bo := B
        go_wp2
        go_ret
        exact ⟨rfl, HB0.out.trans (Bo.mono HB0.out.size)⟩
      · have d2 : decide (1099511627776 < s) = false := by simp; omega
        have hi := (wF_ok.mp hw).1
        obtain ⟨i1, i2, i3, i4⟩ := id hi
        have hfr : frW y = max 1 (y.t - 31) := rfl
        obtain ⟨r, hr⟩ : ∃ r, s % 4294967296 = r := ⟨_, rfl⟩
        have hrb : -9223372036854775808 ≤ r ∧ r ≤ 9223372036854775807 := by omega
        have hs0 : 0 ≤ s := by omega
        have hsn : ¬ s < 1 := hr1
        have htm : s.tmod 4294967296 = r := by rw [Int.tmod_eq_emod_of_nonneg hs0]; exact hr
        have CGi := Hid.mk (fun w => implGuess_ok y r hrb w)
        have CGs := Hid.mk (fun w => specGuess_ok y r hrb w)
        have CL := Hid.mk (fun w => implLow_ok y r hrb w)
        by_cases hl : y.t - 32 + 1 < 1
        · have d3 : decide (y.t - 32 + 1 < 1) = true := by simp [hl]
          have hf : frW y = 1 := by rw [hfr]; omega
          by_cases hb : s < 1 ∨ 4294967296 ≤ s - 1
          · obtain ⟨kc, hkc⟩ : ∃ q, gsC y r = q := ⟨_, rfl⟩
            obtain ⟨kv, hkv⟩ : ∃ q, gsA y r = q := ⟨_, rfl⟩
            have hge : kc = 0 → 1 ≤ kv := by
              intro h0
              have h9 := gs_least y r
              rw [hf] at h9
              rw [← hkv]
              unfold gsA
              rw [if_pos (by rw [hkc]; exact h0)]
              exact h9
            simp only [hkc, hkv] at CGi CGs
            have hkk : (kc == kc) = true := by simp
            clear CTi CTs CL
            rcases hb with hb | hb
            · omega
            · have d4 : decide (s < 1) = false := by simp; omega
              have d5 : decide (4294967296 ≤ s - 1) = true := by simp; omega
              by_cases hk0 : kc = 0
              · have d6 : (kc != 0) = false := by simp [hk0]
                have d7 : decide (1 ≤ kv) = true := by simp [hge hk0]
                clear hge hkc hkv hk0 hb hi hfr hf hw hr
                replace B := thenB B (belowA wA (.cells #[.int .i64 y.t, .int .i64 y.b] 25))
                have VA := V.new wA [.int .i64 y.t, .int .i64 y.b] 25
                obtain ⟨s_VA, f_VA, z_VA⟩ := VA.open
                have Bo := B
                go_wp2_with fail
                refine (CS.out _).mono ?_
                rintro e w1251 ⟨rfl, b1251⟩
                clear s_VA f_VA z_VA
                have S1251 := b1251.size
                simp only [World.size_alloc] at S1251
                replace VA := VA.kept b1251
                replace B := thenB B b1251
                clear b1251
                obtain ⟨s_VA, f_VA, z_VA⟩ := VA.open
                have Bo := B
                go_wp2_with fail
                refine (CGi.out _).mono ?_
                rintro e w1252 ⟨rfl, b1252⟩
                clear s_VA f_VA z_VA
                have S1252 := b1252.size
                replace VA := VA.kept b1252
                replace B := thenB B b1252
                clear b1252
                obtain ⟨s_VA, f_VA, z_VA⟩ := VA.open
                have Bo := B
                replace VA := VA.kept (belowA w1252 (.cells #[.int .i64 kc, .int .i64 kv] 42))
                replace B := thenB B (belowA w1252 (.cells #[.int .i64 kc, .int .i64 kv] 42))
                have VG := V.new w1252 [.int .i64 kc, .int .i64 kv] 42
                clear s_VA f_VA z_VA
                obtain ⟨s_VA, f_VA, z_VA⟩ := VA.open
                obtain ⟨s_VG, f_VG, z_VG⟩ := VG.open
                have Bo := B
                go_upto_region 11 with fail
                clear s_VA f_VA z_VA s_VG f_VG z_VG
                have K : ∀ w' : World, Below (w1252.alloc (.cells #[.int .i64 kc, .int .i64 kv] 42)).heap.size (w1252.alloc (.cells #[.int .i64 kc, .int .i64 kv] 42)) w' → (w'.cell? ⟨wA.heap.size, 0, none⟩ = some (.int .i64 y.t) ∧ w'.cell? ⟨wA.heap.size, 1, none⟩ = some (.int .i64 y.b) ∧ w'.cell? ⟨w1252.heap.size, 0, none⟩ = some (.int .i64 kc) ∧ w'.cell? ⟨w1252.heap.size, 1, none⟩ = some (.int .i64 kv)) := fun w' h => ⟨(VA.kept h).2.1 0 (by simp), (VA.kept h).2.1 1 (by simp), (VG.kept h).2.1 0 (by simp), (VG.kept h).2.1 1 (by simp)⟩
                have K := Hid.mk K
                refine wp_region_held_drew (S := (fun w' => w'.cell? ⟨wA.heap.size, 0, none⟩ = some (.int .i64 y.t) ∧ w'.cell? ⟨wA.heap.size, 1, none⟩ = some (.int .i64 y.b) ∧ w'.cell? ⟨w1252.heap.size, 0, none⟩ = some (.int .i64 kc) ∧ w'.cell? ⟨w1252.heap.size, 1, none⟩ = some (.int .i64 kv))) (by kernel_rfl) (K.out _ (Below.refl _ _).drew) (fun hHeld => ?_)
                refine wpAnyH_take (i := 0) (oi := _) (v := ?vz1251u1) rfl (by kernel_rfl) (by kernel_rfl) (by kernel_rfl) (fun _ _ _ h => h) (Or.inl ⟨by kernel_rfl, ?hyz1251u1⟩) hHeld ?restz1251u1
                case hyz1251u1 => (intro w hSw; (try dsimp only at hSw); go_simp; first | done | with_reducible rfl)
                try simp only [Act.put, List.getElem_toArray, List.getElem_cons_zero, List.setIfInBounds_toArray, List.set_cons_zero, List.set_cons_succ]
                refine wpAnyH_take (i := 1) (oi := _) (v := ?vz1251u2) rfl (by kernel_rfl) (by kernel_rfl) (by kernel_rfl) (fun _ _ _ h => h) (Or.inl ⟨by kernel_rfl, ?hyz1251u2⟩) hHeld ?restz1251u2
                case hyz1251u2 => (intro w hSw; (try dsimp only at hSw); go_simp; first | done | with_reducible rfl)
                try simp only [Act.put, List.getElem_toArray, List.getElem_cons_zero, List.getElem_cons_succ, List.setIfInBounds_toArray, List.set_cons_zero, List.set_cons_succ]
                refine wpAnyH_take (i := 2) (oi := _) (v := ?vz1251u3) rfl (by kernel_rfl) (by kernel_rfl) (by kernel_rfl) (fun _ _ _ h => h) (Or.inl ⟨by kernel_rfl, ?hyz1251u3⟩) hHeld ?restz1251u3
                case hyz1251u3 => (intro w hSw; (try dsimp only at hSw); go_simp; first | done | with_reducible rfl)
                try simp only [Act.put, List.getElem_toArray, List.getElem_cons_zero, List.getElem_cons_succ, List.setIfInBounds_toArray, List.set_cons_zero, List.set_cons_succ]
                refine wpAnyH_take (i := 3) (oi := _) (v := ?vz1251u4) rfl (by kernel_rfl) (by kernel_rfl) (by kernel_rfl) (fun _ _ _ h => h) (Or.inl ⟨by kernel_rfl, ?hyz1251u4⟩) hHeld ?restz1251u4
                case hyz1251u4 => (intro w hSw; (try dsimp only at hSw); go_simp; first | done | with_reducible rfl)
                try simp only [Act.put, List.getElem_toArray, List.getElem_cons_zero, List.getElem_cons_succ, List.setIfInBounds_toArray, List.set_cons_zero, List.set_cons_succ]
                refine wpAnyH_take (i := 4) (oi := _) (v := ?vz1251u5) rfl (by kernel_rfl) (by kernel_rfl) (by kernel_rfl) (fun _ _ _ h => h) (Or.inl ⟨by kernel_rfl, ?hyz1251u5⟩) hHeld ?restz1251u5
                case hyz1251u5 => (intro w hSw; (try dsimp only at hSw); go_simp; first | done | with_reducible rfl)
                try simp only [Act.put, List.getElem_toArray, List.getElem_cons_zero, List.getElem_cons_succ, List.setIfInBounds_toArray, List.set_cons_zero, List.set_cons_succ]
                refine wpAnyH_ready (rs := [5]) (by kernel_rfl) (by simp) ?_
                refine AllReadyH.cons (o := _) rfl (fun K0 hK0 => ?_) AllReadyH.nil
                go_simp
                go_at_call 25
                refine (CGs.out _).mono ?_
                rintro e wz1251v6 ⟨rfl, bz1251v6⟩
                refine hK0.out _ _ (K.out _ (thenB (Below.refl _ _).drew bz1251v6)) (fun hHeld => ?_)
                clear hK0 K0
                try simp only [Act.put, List.getElem_toArray, List.getElem_cons_zero, List.getElem_cons_succ, List.setIfInBounds_toArray, List.set_cons_zero, List.set_cons_succ]
                refine wpAnyH_take (i := 6) (oi := _) (v := ?vz1251u7) rfl (by kernel_rfl) (by kernel_rfl) (by kernel_rfl) (fun _ _ _ h => h) (Or.inl ⟨by kernel_rfl, ?hyz1251u7⟩) hHeld ?restz1251u7
                case hyz1251u7 => (intro w hSw; (try dsimp only at hSw); go_simp; first | done | with_reducible rfl)
                try simp only [Act.put, List.getElem_toArray, List.getElem_cons_zero, List.getElem_cons_succ, List.setIfInBounds_toArray, List.set_cons_zero, List.set_cons_succ]
                refine wpAnyH_take (i := 7) (oi := _) (v := ?vz1251u8) rfl (by kernel_rfl) (by kernel_rfl) (by kernel_rfl) (fun _ _ _ h => h) (Or.inl ⟨by kernel_rfl, ?hyz1251u8⟩) hHeld ?restz1251u8
                case hyz1251u8 => (intro w hSw; (try dsimp only at hSw); go_simp; first | done | with_reducible rfl)
                try simp only [Act.put, List.getElem_toArray, List.getElem_cons_zero, List.getElem_cons_succ, List.setIfInBounds_toArray, List.set_cons_zero, List.set_cons_succ]
                refine wpAnyH_take (i := 8) (oi := _) (v := ?vz1251u9) rfl (by kernel_rfl) (by kernel_rfl) (by kernel_rfl) (fun _ _ _ h => h) (Or.inl ⟨by kernel_rfl, ?hyz1251u9⟩) hHeld ?restz1251u9
                case hyz1251u9 => (intro w hSw; (try dsimp only at hSw); go_simp; first | done | with_reducible rfl)
                try simp only [Act.put, List.getElem_toArray, List.getElem_cons_zero, List.getElem_cons_succ, List.setIfInBounds_toArray, List.set_cons_zero, List.set_cons_succ]
                refine wpAnyH_take (i := 9) (oi := _) (v := ?vz1251u10) rfl (by kernel_rfl) (by kernel_rfl) (by kernel_rfl) (fun _ _ _ h => h) (Or.inl ⟨by kernel_rfl, ?hyz1251u10⟩) hHeld ?restz1251u10
                case hyz1251u10 => (intro w hSw; (try dsimp only at hSw); go_simp; first | done | with_reducible rfl)
                try simp only [Act.put, List.getElem_toArray, List.getElem_cons_zero, List.getElem_cons_succ, List.setIfInBounds_toArray, List.set_cons_zero, List.set_cons_succ]
                refine wpAnyH_take (i := 10) (oi := _) (v := ?vz1251u11) rfl (by kernel_rfl) (by kernel_rfl) (by kernel_rfl) (fun _ _ _ h => h) (Or.inl ⟨by kernel_rfl, ?hyz1251u11⟩) hHeld ?restz1251u11
                case hyz1251u11 => (intro w hSw; (try dsimp only at hSw); go_simp; first | done | with_reducible rfl)
                try simp only [Act.put, List.getElem_toArray, List.getElem_cons_zero, List.getElem_cons_succ, List.setIfInBounds_toArray, List.set_cons_zero, List.set_cons_succ]
                refine wpAnyH_take (i := 11) (oi := _) (v := ?vz1251u12) rfl (by kernel_rfl) (by kernel_rfl) (by kernel_rfl) (fun _ _ _ h => h) (Or.inl ⟨by kernel_rfl, ?hyz1251u12⟩) hHeld ?restz1251u12
                case hyz1251u12 => (intro w hSw; (try dsimp only at hSw); go_simp; first | done | with_reducible rfl)
                try simp only [Act.put, List.getElem_toArray, List.getElem_cons_zero, List.getElem_cons_succ, List.setIfInBounds_toArray, List.set_cons_zero, List.set_cons_succ]
                refine wpAnyH_take (i := 12) (oi := _) (v := ?vz1251u13) rfl (by kernel_rfl) (by kernel_rfl) (by kernel_rfl) (fun _ _ _ h => h) (Or.inl ⟨by kernel_rfl, ?hyz1251u13⟩) hHeld ?restz1251u13
                case hyz1251u13 => (intro w hSw; (try dsimp only at hSw); go_simp; first | done | with_reducible rfl)
                try simp only [Act.put, List.getElem_toArray, List.getElem_cons_zero, List.getElem_cons_succ, List.setIfInBounds_toArray, List.set_cons_zero, List.set_cons_succ]
                refine wpAnyH_take (i := 13) (oi := _) (v := ?vz1251u14) rfl (by kernel_rfl) (by kernel_rfl) (by kernel_rfl) (fun _ _ _ h => h) (Or.inl ⟨by kernel_rfl, ?hyz1251u14⟩) hHeld ?restz1251u14
                case hyz1251u14 => (intro w hSw; (try dsimp only at hSw); go_simp; first | done | with_reducible rfl)
                try simp only [Act.put, List.getElem_toArray, List.getElem_cons_zero, List.getElem_cons_succ, List.setIfInBounds_toArray, List.set_cons_zero, List.set_cons_succ]
                refine wpAnyH_take (i := 14) (oi := _) (v := ?vz1251u15) rfl (by kernel_rfl) (by kernel_rfl) (by kernel_rfl) (fun _ _ _ h => h) (Or.inl ⟨by kernel_rfl, ?hyz1251u15⟩) hHeld ?restz1251u15
                case hyz1251u15 => (intro w hSw; (try dsimp only at hSw); go_simp; first | done | with_reducible rfl)
                try simp only [Act.put, List.getElem_toArray, List.getElem_cons_zero, List.getElem_cons_succ, List.setIfInBounds_toArray, List.set_cons_zero, List.set_cons_succ]
                refine wpAnyH_take (i := 15) (oi := _) (v := ?vz1251u16) rfl (by kernel_rfl) (by kernel_rfl) (by kernel_rfl) (fun _ _ _ h => h) (Or.inl ⟨by kernel_rfl, ?hyz1251u16⟩) hHeld ?restz1251u16
                case hyz1251u16 => (intro w hSw; (try dsimp only at hSw); go_simp; first | done | with_reducible rfl)
                try simp only [Act.put, List.getElem_toArray, List.getElem_cons_zero, List.getElem_cons_succ, List.setIfInBounds_toArray, List.set_cons_zero, List.set_cons_succ]
                refine wpAnyH_take (i := 16) (oi := _) (v := ?vz1251u17) rfl (by kernel_rfl) (by kernel_rfl) (by kernel_rfl) (fun _ _ _ h => h) (Or.inl ⟨by kernel_rfl, ?hyz1251u17⟩) hHeld ?restz1251u17
                case hyz1251u17 => (intro w hSw; (try dsimp only at hSw); go_simp; first | done | with_reducible rfl)
                try simp only [Act.put, List.getElem_toArray, List.getElem_cons_zero, List.getElem_cons_succ, List.setIfInBounds_toArray, List.set_cons_zero, List.set_cons_succ]
                refine wpAnyH_take (i := 17) (oi := _) (v := ?vz1251u18) rfl (by kernel_rfl) (by kernel_rfl) (by kernel_rfl) (fun _ _ _ h => h) (Or.inl ⟨by kernel_rfl, ?hyz1251u18⟩) hHeld ?restz1251u18
                case hyz1251u18 => (intro w hSw; (try dsimp only at hSw); go_simp; first | done | with_reducible rfl)
                try simp only [Act.put, List.getElem_toArray, List.getElem_cons_zero, List.getElem_cons_succ, List.setIfInBounds_toArray, List.set_cons_zero, List.set_cons_succ]
                refine wpAnyH_take (i := 18) (oi := _) (v := ?vz1251u19) rfl (by kernel_rfl) (by kernel_rfl) (by kernel_rfl) (fun _ _ _ h => h) (Or.inl ⟨by kernel_rfl, ?hyz1251u19⟩) hHeld ?restz1251u19
                case hyz1251u19 => (intro w hSw; (try dsimp only at hSw); go_simp; first | done | with_reducible rfl)
                try simp only [Act.put, List.getElem_toArray, List.getElem_cons_zero, List.getElem_cons_succ, List.setIfInBounds_toArray, List.set_cons_zero, List.set_cons_succ]
                refine wpAnyH_take (i := 19) (oi := _) (v := ?vz1251u20) rfl (by kernel_rfl) (by kernel_rfl) (by kernel_rfl) (fun _ _ _ h => h) (Or.inl ⟨by kernel_rfl, ?hyz1251u20⟩) hHeld ?restz1251u20
                case hyz1251u20 => (intro w hSw; (try dsimp only at hSw); go_simp; first | done | with_reducible rfl)
                try simp only [Act.put, List.getElem_toArray, List.getElem_cons_zero, List.getElem_cons_succ, List.setIfInBounds_toArray, List.set_cons_zero, List.set_cons_succ]
                refine wpAnyH_done (by kernel_rfl) ?_ _
                clear K hHeld
                have bacc : Below (w1252.alloc (.cells #[.int .i64 kc, .int .i64 kv] 42)).heap.size (w1252.alloc (.cells #[.int .i64 kc, .int .i64 kv] 42)) wz1251v6 := (thenB (Below.refl _ _).drew bz1251v6)
                replace VA := VA.kept bacc
                replace VG := VG.kept bacc
                replace B := thenB B bacc
                have Sz1251 := (bacc).size
                clear bacc
                simp only [World.size_alloc] at Sz1251
                clear bz1251v6
                obtain ⟨s_VA, f_VA, z_VA⟩ := VA.open
                obtain ⟨s_VG, f_VG, z_VG⟩ := VG.open
                have Bo := B
                go_wp2
                go_ret
                exact ⟨rfl, HB0.out.trans (Bo.mono HB0.out.size)⟩
              · have d6 : (kc != 0) = true := by simp [hk0]
                clear hge hkc hkv hk0 hb hi hfr hf hw hr
                replace B := thenB B (belowA wA (.cells #[.int .i64 y.t, .int .i64 y.b] 25))
                have VA := V.new wA [.int .i64 y.t, .int .i64 y.b] 25
                obtain ⟨s_VA, f_VA, z_VA⟩ := VA.open
                have Bo := B
                go_wp2_with fail
                refine (CS.out _).mono ?_
                rintro e w1201 ⟨rfl, b1201⟩
                clear s_VA f_VA z_VA
                have S1201 := b1201.size
                simp only [World.size_alloc] at S1201
                replace VA := VA.kept b1201
                replace B := thenB B b1201
                clear b1201
                obtain ⟨s_VA, f_VA, z_VA⟩ := VA.open
                have Bo := B
                go_wp2_with fail
                refine (CGi.out _).mono ?_
                rintro e w1202 ⟨rfl, b1202⟩
                clear s_VA f_VA z_VA
                have S1202 := b1202.size
                replace VA := VA.kept b1202
                replace B := thenB B b1202
                clear b1202
                obtain ⟨s_VA, f_VA, z_VA⟩ := VA.open
                have Bo := B
                replace VA := VA.kept (belowA w1202 (.cells #[.int .i64 kc, .int .i64 kv] 42))
                replace B := thenB B (belowA w1202 (.cells #[.int .i64 kc, .int .i64 kv] 42))
                have VG := V.new w1202 [.int .i64 kc, .int .i64 kv] 42
                clear s_VA f_VA z_VA
                obtain ⟨s_VA, f_VA, z_VA⟩ := VA.open
                obtain ⟨s_VG, f_VG, z_VG⟩ := VG.open
                have Bo := B
                go_upto_region 11 with fail
                clear s_VA f_VA z_VA s_VG f_VG z_VG
                have K : ∀ w' : World, Below (w1202.alloc (.cells #[.int .i64 kc, .int .i64 kv] 42)).heap.size (w1202.alloc (.cells #[.int .i64 kc, .int .i64 kv] 42)) w' → (w'.cell? ⟨wA.heap.size, 0, none⟩ = some (.int .i64 y.t) ∧ w'.cell? ⟨wA.heap.size, 1, none⟩ = some (.int .i64 y.b) ∧ w'.cell? ⟨w1202.heap.size, 0, none⟩ = some (.int .i64 kc) ∧ w'.cell? ⟨w1202.heap.size, 1, none⟩ = some (.int .i64 kv)) := fun w' h => ⟨(VA.kept h).2.1 0 (by simp), (VA.kept h).2.1 1 (by simp), (VG.kept h).2.1 0 (by simp), (VG.kept h).2.1 1 (by simp)⟩
                have K := Hid.mk K
                refine wp_region_held_drew (S := (fun w' => w'.cell? ⟨wA.heap.size, 0, none⟩ = some (.int .i64 y.t) ∧ w'.cell? ⟨wA.heap.size, 1, none⟩ = some (.int .i64 y.b) ∧ w'.cell? ⟨w1202.heap.size, 0, none⟩ = some (.int .i64 kc) ∧ w'.cell? ⟨w1202.heap.size, 1, none⟩ = some (.int .i64 kv))) (by kernel_rfl) (K.out _ (Below.refl _ _).drew) (fun hHeld => ?_)
                refine wpAnyH_take (i := 0) (oi := _) (v := ?vz1201u1) rfl (by kernel_rfl) (by kernel_rfl) (by kernel_rfl) (fun _ _ _ h => h) (Or.inl ⟨by kernel_rfl, ?hyz1201u1⟩) hHeld ?restz1201u1
                case hyz1201u1 => (intro w hSw; (try dsimp only at hSw); go_simp; first | done | with_reducible rfl)
                try simp only [Act.put, List.getElem_toArray, List.getElem_cons_zero, List.setIfInBounds_toArray, List.set_cons_zero, List.set_cons_succ]
                refine wpAnyH_take (i := 1) (oi := _) (v := ?vz1201u2) rfl (by kernel_rfl) (by kernel_rfl) (by kernel_rfl) (fun _ _ _ h => h) (Or.inl ⟨by kernel_rfl, ?hyz1201u2⟩) hHeld ?restz1201u2
                case hyz1201u2 => (intro w hSw; (try dsimp only at hSw); go_simp; first | done | with_reducible rfl)
                try simp only [Act.put, List.getElem_toArray, List.getElem_cons_zero, List.getElem_cons_succ, List.setIfInBounds_toArray, List.set_cons_zero, List.set_cons_succ]
                refine wpAnyH_take (i := 2) (oi := _) (v := ?vz1201u3) rfl (by kernel_rfl) (by kernel_rfl) (by kernel_rfl) (fun _ _ _ h => h) (Or.inl ⟨by kernel_rfl, ?hyz1201u3⟩) hHeld ?restz1201u3
                case hyz1201u3 => (intro w hSw; (try dsimp only at hSw); go_simp; first | done | with_reducible rfl)
                try simp only [Act.put, List.getElem_toArray, List.getElem_cons_zero, List.getElem_cons_succ, List.setIfInBounds_toArray, List.set_cons_zero, List.set_cons_succ]
                refine wpAnyH_take (i := 3) (oi := _) (v := ?vz1201u4) rfl (by kernel_rfl) (by kernel_rfl) (by kernel_rfl) (fun _ _ _ h => h) (Or.inl ⟨by kernel_rfl, ?hyz1201u4⟩) hHeld ?restz1201u4
                case hyz1201u4 => (intro w hSw; (try dsimp only at hSw); go_simp; first | done | with_reducible rfl)
                try simp only [Act.put, List.getElem_toArray, List.getElem_cons_zero, List.getElem_cons_succ, List.setIfInBounds_toArray, List.set_cons_zero, List.set_cons_succ]
                refine wpAnyH_take (i := 4) (oi := _) (v := ?vz1201u5) rfl (by kernel_rfl) (by kernel_rfl) (by kernel_rfl) (fun _ _ _ h => h) (Or.inl ⟨by kernel_rfl, ?hyz1201u5⟩) hHeld ?restz1201u5
                case hyz1201u5 => (intro w hSw; (try dsimp only at hSw); go_simp; first | done | with_reducible rfl)
                try simp only [Act.put, List.getElem_toArray, List.getElem_cons_zero, List.getElem_cons_succ, List.setIfInBounds_toArray, List.set_cons_zero, List.set_cons_succ]
                refine wpAnyH_ready (rs := [5]) (by kernel_rfl) (by simp) ?_
                refine AllReadyH.cons (o := _) rfl (fun K0 hK0 => ?_) AllReadyH.nil
                go_simp
                go_at_call 25
                refine (CGs.out _).mono ?_
                rintro e wz1201v6 ⟨rfl, bz1201v6⟩
                refine hK0.out _ _ (K.out _ (thenB (Below.refl _ _).drew bz1201v6)) (fun hHeld => ?_)
                clear hK0 K0
                try simp only [Act.put, List.getElem_toArray, List.getElem_cons_zero, List.getElem_cons_succ, List.setIfInBounds_toArray, List.set_cons_zero, List.set_cons_succ]
                refine wpAnyH_take (i := 6) (oi := _) (v := ?vz1201u7) rfl (by kernel_rfl) (by kernel_rfl) (by kernel_rfl) (fun _ _ _ h => h) (Or.inl ⟨by kernel_rfl, ?hyz1201u7⟩) hHeld ?restz1201u7
                case hyz1201u7 => (intro w hSw; (try dsimp only at hSw); go_simp; first | done | with_reducible rfl)
                try simp only [Act.put, List.getElem_toArray, List.getElem_cons_zero, List.getElem_cons_succ, List.setIfInBounds_toArray, List.set_cons_zero, List.set_cons_succ]
                refine wpAnyH_take (i := 7) (oi := _) (v := ?vz1201u8) rfl (by kernel_rfl) (by kernel_rfl) (by kernel_rfl) (fun _ _ _ h => h) (Or.inl ⟨by kernel_rfl, ?hyz1201u8⟩) hHeld ?restz1201u8
                case hyz1201u8 => (intro w hSw; (try dsimp only at hSw); go_simp; first | done | with_reducible rfl)
                try simp only [Act.put, List.getElem_toArray, List.getElem_cons_zero, List.getElem_cons_succ, List.setIfInBounds_toArray, List.set_cons_zero, List.set_cons_succ]
                refine wpAnyH_take (i := 8) (oi := _) (v := ?vz1201u9) rfl (by kernel_rfl) (by kernel_rfl) (by kernel_rfl) (fun _ _ _ h => h) (Or.inl ⟨by kernel_rfl, ?hyz1201u9⟩) hHeld ?restz1201u9
                case hyz1201u9 => (intro w hSw; (try dsimp only at hSw); go_simp; first | done | with_reducible rfl)
                try simp only [Act.put, List.getElem_toArray, List.getElem_cons_zero, List.getElem_cons_succ, List.setIfInBounds_toArray, List.set_cons_zero, List.set_cons_succ]
                refine wpAnyH_take (i := 9) (oi := _) (v := ?vz1201u10) rfl (by kernel_rfl) (by kernel_rfl) (by kernel_rfl) (fun _ _ _ h => h) (Or.inl ⟨by kernel_rfl, ?hyz1201u10⟩) hHeld ?restz1201u10
                case hyz1201u10 => (intro w hSw; (try dsimp only at hSw); go_simp; first | done | with_reducible rfl)
                try simp only [Act.put, List.getElem_toArray, List.getElem_cons_zero, List.getElem_cons_succ, List.setIfInBounds_toArray, List.set_cons_zero, List.set_cons_succ]
                refine wpAnyH_take (i := 10) (oi := _) (v := ?vz1201u11) rfl (by kernel_rfl) (by kernel_rfl) (by kernel_rfl) (fun _ _ _ h => h) (Or.inl ⟨by kernel_rfl, ?hyz1201u11⟩) hHeld ?restz1201u11
                case hyz1201u11 => (intro w hSw; (try dsimp only at hSw); go_simp; first | done | with_reducible rfl)
                try simp only [Act.put, List.getElem_toArray, List.getElem_cons_zero, List.getElem_cons_succ, List.setIfInBounds_toArray, List.set_cons_zero, List.set_cons_succ]
                refine wpAnyH_take (i := 11) (oi := _) (v := ?vz1201u12) rfl (by kernel_rfl) (by kernel_rfl) (by kernel_rfl) (fun _ _ _ h => h) (Or.inl ⟨by kernel_rfl, ?hyz1201u12⟩) hHeld ?restz1201u12
                case hyz1201u12 => (intro w hSw; (try dsimp only at hSw); go_simp; first | done | with_reducible rfl)
                try simp only [Act.put, List.getElem_toArray, List.getElem_cons_zero, List.getElem_cons_succ, List.setIfInBounds_toArray, List.set_cons_zero, List.set_cons_succ]
                refine wpAnyH_take (i := 12) (oi := _) (v := ?vz1201u13) rfl (by kernel_rfl) (by kernel_rfl) (by kernel_rfl) (fun _ _ _ h => h) (Or.inl ⟨by kernel_rfl, ?hyz1201u13⟩) hHeld ?restz1201u13
                case hyz1201u13 => (intro w hSw; (try dsimp only at hSw); go_simp; first | done | with_reducible rfl)
                try simp only [Act.put, List.getElem_toArray, List.getElem_cons_zero, List.getElem_cons_succ, List.setIfInBounds_toArray, List.set_cons_zero, List.set_cons_succ]
                refine wpAnyH_take (i := 13) (oi := _) (v := undef) rfl (by kernel_rfl) (by kernel_rfl) (by kernel_rfl) (fun _ _ _ h => h) (Or.inr ⟨by rfl, rfl⟩) hHeld ?_
                try simp only [Act.put, List.getElem_toArray, List.getElem_cons_zero, List.getElem_cons_succ, List.setIfInBounds_toArray, List.set_cons_zero, List.set_cons_succ]
                refine wpAnyH_take (i := 14) (oi := _) (v := undef) rfl (by kernel_rfl) (by kernel_rfl) (by kernel_rfl) (fun _ _ _ h => h) (Or.inr ⟨by rfl, rfl⟩) hHeld ?_
                try simp only [Act.put, List.getElem_toArray, List.getElem_cons_zero, List.getElem_cons_succ, List.setIfInBounds_toArray, List.set_cons_zero, List.set_cons_succ]
                refine wpAnyH_take (i := 15) (oi := _) (v := undef) rfl (by kernel_rfl) (by kernel_rfl) (by kernel_rfl) (fun _ _ _ h => h) (Or.inr ⟨by rfl, rfl⟩) hHeld ?_
                try simp only [Act.put, List.getElem_toArray, List.getElem_cons_zero, List.getElem_cons_succ, List.setIfInBounds_toArray, List.set_cons_zero, List.set_cons_succ]
                refine wpAnyH_take (i := 16) (oi := _) (v := undef) rfl (by kernel_rfl) (by kernel_rfl) (by kernel_rfl) (fun _ _ _ h => h) (Or.inr ⟨by rfl, rfl⟩) hHeld ?_
                try simp only [Act.put, List.getElem_toArray, List.getElem_cons_zero, List.getElem_cons_succ, List.setIfInBounds_toArray, List.set_cons_zero, List.set_cons_succ]
                refine wpAnyH_take (i := 17) (oi := _) (v := ?vz1201u14) rfl (by kernel_rfl) (by kernel_rfl) (by kernel_rfl) (fun _ _ _ h => h) (Or.inl ⟨by kernel_rfl, ?hyz1201u14⟩) hHeld ?restz1201u14
                case hyz1201u14 => (intro w hSw; (try dsimp only at hSw); go_simp; first | done | with_reducible rfl)
                try simp only [Act.put, List.getElem_toArray, List.getElem_cons_zero, List.getElem_cons_succ, List.setIfInBounds_toArray, List.set_cons_zero, List.set_cons_succ]
                refine wpAnyH_take (i := 18) (oi := _) (v := ?vz1201u15) rfl (by kernel_rfl) (by kernel_rfl) (by kernel_rfl) (fun _ _ _ h => h) (Or.inl ⟨by kernel_rfl, ?hyz1201u15⟩) hHeld ?restz1201u15
                case hyz1201u15 => (intro w hSw; (try dsimp only at hSw); go_simp; first | done | with_reducible rfl)
                try simp only [Act.put, List.getElem_toArray, List.getElem_cons_zero, List.getElem_cons_succ, List.setIfInBounds_toArray, List.set_cons_zero, List.set_cons_succ]
                refine wpAnyH_take (i := 19) (oi := _) (v := ?vz1201u16) rfl (by kernel_rfl) (by kernel_rfl) (by kernel_rfl) (fun _ _ _ h => h) (Or.inl ⟨by kernel_rfl, ?hyz1201u16⟩) hHeld ?restz1201u16
                case hyz1201u16 => (intro w hSw; (try dsimp only at hSw); go_simp; first | done | with_reducible rfl)
                try simp only [Act.put, List.getElem_toArray, List.getElem_cons_zero, List.getElem_cons_succ, List.setIfInBounds_toArray, List.set_cons_zero, List.set_cons_succ]
                refine wpAnyH_done (by kernel_rfl) ?_ _
                clear K hHeld
                have bacc : Below (w1202.alloc (.cells #[.int .i64 kc, .int .i64 kv] 42)).heap.size (w1202.alloc (.cells #[.int .i64 kc, .int .i64 kv] 42)) wz1201v6 := (thenB (Below.refl _ _).drew bz1201v6)
                replace VA := VA.kept bacc
                replace VG := VG.kept bacc
                replace B := thenB B bacc
                have Sz1201 := (bacc).size
                clear bacc
                simp only [World.size_alloc] at Sz1201
                clear bz1201v6
                obtain ⟨s_VA, f_VA, z_VA⟩ := VA.open
                obtain ⟨s_VG, f_VG, z_VG⟩ := VG.open
                have Bo := B
                go_wp2
                go_ret
                exact ⟨rfl, HB0.out.trans (Bo.mono HB0.out.size)⟩
          · have d4 : decide (s < 1) = false := by simp; omega
            have d5 : decide (4294967296 ≤ s - 1) = false := by simp; omega
            have hsame : gsV y r = s := by rw [← hr]; exact gs_same (by rw [hf]; omega) (by rw [hf]; omega)
            have hkc : gsC y r = 0 := by
              rcases gs_ways y r with ⟨h, _⟩ | ⟨_, h, _⟩ | ⟨_, _, h, _⟩ | ⟨_, _, _, h, _⟩
              · exact absurd hw h
              · exact absurd (by omega) h
              · rw [hsame] at h; exact absurd (by omega) h
              · exact h
            have hkv : gsA y r = s := by simp [gsA, hkc, hsame]
            have hlow : tlR y r = tsR y s := by rw [(tk_whole (s := s) hw).2]; simp [tlR, hkc, hsame]
            simp only [hkc, hkv] at CGi
            simp only [hlow] at CL
            generalize tsR y s = P at *
            obtain ⟨pc, pn, pu⟩ := P
            simp only at CTi CL
            have hss : (s == s) = true := by simp
            clear CGs CTs hb hsame hkc hkv hlow hi hfr hf hw hr
            replace B := thenB B (belowA wA (.cells #[.int .i64 y.t, .int .i64 y.b] 25))
            have VA := V.new wA [.int .i64 y.t, .int .i64 y.b] 25
            obtain ⟨s_VA, f_VA, z_VA⟩ := VA.open
            have Bo := B
            go_wp2_with fail
            refine (CS.out _).mono ?_
            rintro e w1401 ⟨rfl, b1401⟩
            clear s_VA f_VA z_VA
            have S1401 := b1401.size
            simp only [World.size_alloc] at S1401
            replace VA := VA.kept b1401
            replace B := thenB B b1401
            clear b1401
            obtain ⟨s_VA, f_VA, z_VA⟩ := VA.open
            have Bo := B
            go_wp2_with fail
            refine (CGi.out _).mono ?_
            rintro e w1402 ⟨rfl, b1402⟩
            clear s_VA f_VA z_VA
            have S1402 := b1402.size
            replace VA := VA.kept b1402
            replace B := thenB B b1402
            clear b1402
            obtain ⟨s_VA, f_VA, z_VA⟩ := VA.open
            have Bo := B
            replace VA := VA.kept (belowA w1402 (.cells #[.int .i64 0, .int .i64 s] 42))
            replace B := thenB B (belowA w1402 (.cells #[.int .i64 0, .int .i64 s] 42))
            have VG := V.new w1402 [.int .i64 0, .int .i64 s] 42
            clear s_VA f_VA z_VA
            obtain ⟨s_VA, f_VA, z_VA⟩ := VA.open
            obtain ⟨s_VG, f_VG, z_VG⟩ := VG.open
            have Bo := B
            go_wp2_with fail
            refine (CTi.out _).mono ?_
            rintro e w1403 ⟨rfl, b1403⟩
            clear s_VA f_VA z_VA s_VG f_VG z_VG
            have S1403 := b1403.size
            simp only [World.size_alloc] at S1403
            replace VA := VA.kept b1403
            replace VG := VG.kept b1403
            replace B := thenB B b1403
            clear b1403
            obtain ⟨s_VA, f_VA, z_VA⟩ := VA.open
            obtain ⟨s_VG, f_VG, z_VG⟩ := VG.open
            have Bo := B
            replace VA := VA.kept (belowA w1403 (.cells #[.int .i64 pc, .int .i64 pn, .int .i64 pu.t, .int .i64 pu.b] 35))
            replace VG := VG.kept (belowA w1403 (.cells #[.int .i64 pc, .int .i64 pn, .int .i64 pu.t, .int .i64 pu.b] 35))
            replace B := thenB B (belowA w1403 (.cells #[.int .i64 pc, .int .i64 pn, .int .i64 pu.t, .int .i64 pu.b] 35))
            have VP := V.new w1403 [.int .i64 pc, .int .i64 pn, .int .i64 pu.t, .int .i64 pu.b] 35
            clear s_VA f_VA z_VA s_VG f_VG z_VG
            obtain ⟨s_VA, f_VA, z_VA⟩ := VA.open
            obtain ⟨s_VG, f_VG, z_VG⟩ := VG.open
            obtain ⟨s_VP, f_VP, z_VP⟩ := VP.open
            have Bo := B
            go_wp2_with fail
            refine (CL.out _).mono ?_
            rintro e w1404 ⟨rfl, b1404⟩
            clear s_VA f_VA z_VA s_VG f_VG z_VG s_VP f_VP z_VP
            have S1404 := b1404.size
            simp only [World.size_alloc] at S1404
            replace VA := VA.kept b1404
            replace VG := VG.kept b1404
            replace VP := VP.kept b1404
            replace B := thenB B b1404
            clear b1404
            obtain ⟨s_VA, f_VA, z_VA⟩ := VA.open
            obtain ⟨s_VG, f_VG, z_VG⟩ := VG.open
            obtain ⟨s_VP, f_VP, z_VP⟩ := VP.open
            have Bo := B
            replace VA := VA.kept (belowA w1404 (.cells #[.int .i64 pc, .int .i64 pn, .int .i64 pu.t, .int .i64 pu.b] 35))
            replace VG := VG.kept (belowA w1404 (.cells #[.int .i64 pc, .int .i64 pn, .int .i64 pu.t, .int .i64 pu.b] 35))
            replace VP := VP.kept (belowA w1404 (.cells #[.int .i64 pc, .int .i64 pn, .int .i64 pu.t, .int .i64 pu.b] 35))
            replace B := thenB B (belowA w1404 (.cells #[.int .i64 pc, .int .i64 pn, .int .i64 pu.t, .int .i64 pu.b] 35))
            have VQ := V.new w1404 [.int .i64 pc, .int .i64 pn, .int .i64 pu.t, .int .i64 pu.b] 35
            clear s_VA f_VA z_VA s_VG f_VG z_VG s_VP f_VP z_VP
            obtain ⟨s_VA, f_VA, z_VA⟩ := VA.open
            obtain ⟨s_VG, f_VG, z_VG⟩ := VG.open
            obtain ⟨s_VP, f_VP, z_VP⟩ := VP.open
            obtain ⟨s_VQ, f_VQ, z_VQ⟩ := VQ.open
            have Bo := B
            go_wp2
            go_ret
            exact ⟨rfl, HB0.out.trans (Bo.mono HB0.out.size)⟩
        · have d3 : decide (y.t - 32 + 1 < 1) = false := by simp; omega
          have hf : frW y = y.t - 32 + 1 := by rw [hfr]; omega
          by_cases hb : s < (y.t - 32 + 1) ∨ 4294967296 ≤ s - (y.t - 32 + 1)
          · obtain ⟨kc, hkc⟩ : ∃ q, gsC y r = q := ⟨_, rfl⟩
            obtain ⟨kv, hkv⟩ : ∃ q, gsA y r = q := ⟨_, rfl⟩
            have hge : kc = 0 → (y.t - 32 + 1) ≤ kv := by
              intro h0
              have h9 := gs_least y r
              rw [hf] at h9
              rw [← hkv]
              unfold gsA
              rw [if_pos (by rw [hkc]; exact h0)]
              exact h9
            simp only [hkc, hkv] at CGi CGs
            have hkk : (kc == kc) = true := by simp
            clear CTi CTs CL
            rcases hb with hb | hb
            · have d4 : decide (s < (y.t - 32 + 1)) = true := by simp [hb]
              by_cases hk0 : kc = 0
              · have d6 : (kc != 0) = false := by simp [hk0]
                have d7 : decide ((y.t - 32 + 1) ≤ kv) = true := by simp [hge hk0]
                clear hge hkc hkv hk0 hb hi hfr hf hw hr
                replace B := thenB B (belowA wA (.cells #[.int .i64 y.t, .int .i64 y.b] 25))
                have VA := V.new wA [.int .i64 y.t, .int .i64 y.b] 25
                obtain ⟨s_VA, f_VA, z_VA⟩ := VA.open
                have Bo := B
                go_wp2_with fail
                refine (CS.out _).mono ?_
                rintro e w3351 ⟨rfl, b3351⟩
                clear s_VA f_VA z_VA
                have S3351 := b3351.size
                simp only [World.size_alloc] at S3351
                replace VA := VA.kept b3351
                replace B := thenB B b3351
                clear b3351
                obtain ⟨s_VA, f_VA, z_VA⟩ := VA.open
                have Bo := B
                go_wp2_with fail
                refine (CGi.out _).mono ?_
                rintro e w3352 ⟨rfl, b3352⟩
                clear s_VA f_VA z_VA
                have S3352 := b3352.size
                replace VA := VA.kept b3352
                replace B := thenB B b3352
                clear b3352
                obtain ⟨s_VA, f_VA, z_VA⟩ := VA.open
                have Bo := B
                replace VA := VA.kept (belowA w3352 (.cells #[.int .i64 kc, .int .i64 kv] 42))
                replace B := thenB B (belowA w3352 (.cells #[.int .i64 kc, .int .i64 kv] 42))
                have VG := V.new w3352 [.int .i64 kc, .int .i64 kv] 42
                clear s_VA f_VA z_VA
                obtain ⟨s_VA, f_VA, z_VA⟩ := VA.open
                obtain ⟨s_VG, f_VG, z_VG⟩ := VG.open
                have Bo := B
                go_upto_region 11 with fail
                clear s_VA f_VA z_VA s_VG f_VG z_VG
                have K : ∀ w' : World, Below (w3352.alloc (.cells #[.int .i64 kc, .int .i64 kv] 42)).heap.size (w3352.alloc (.cells #[.int .i64 kc, .int .i64 kv] 42)) w' → (w'.cell? ⟨wA.heap.size, 0, none⟩ = some (.int .i64 y.t) ∧ w'.cell? ⟨wA.heap.size, 1, none⟩ = some (.int .i64 y.b) ∧ w'.cell? ⟨w3352.heap.size, 0, none⟩ = some (.int .i64 kc) ∧ w'.cell? ⟨w3352.heap.size, 1, none⟩ = some (.int .i64 kv)) := fun w' h => ⟨(VA.kept h).2.1 0 (by simp), (VA.kept h).2.1 1 (by simp), (VG.kept h).2.1 0 (by simp), (VG.kept h).2.1 1 (by simp)⟩
                have K := Hid.mk K
                refine wp_region_held_drew (S := (fun w' => w'.cell? ⟨wA.heap.size, 0, none⟩ = some (.int .i64 y.t) ∧ w'.cell? ⟨wA.heap.size, 1, none⟩ = some (.int .i64 y.b) ∧ w'.cell? ⟨w3352.heap.size, 0, none⟩ = some (.int .i64 kc) ∧ w'.cell? ⟨w3352.heap.size, 1, none⟩ = some (.int .i64 kv))) (by kernel_rfl) (K.out _ (Below.refl _ _).drew) (fun hHeld => ?_)
                refine wpAnyH_take (i := 0) (oi := _) (v := ?vz3351u1) rfl (by kernel_rfl) (by kernel_rfl) (by kernel_rfl) (fun _ _ _ h => h) (Or.inl ⟨by kernel_rfl, ?hyz3351u1⟩) hHeld ?restz3351u1
                case hyz3351u1 => (intro w hSw; (try dsimp only at hSw); go_simp; first | done | with_reducible rfl)
                try simp only [Act.put, List.getElem_toArray, List.getElem_cons_zero, List.setIfInBounds_toArray, List.set_cons_zero, List.set_cons_succ]
                refine wpAnyH_take (i := 1) (oi := _) (v := ?vz3351u2) rfl (by kernel_rfl) (by kernel_rfl) (by kernel_rfl) (fun _ _ _ h => h) (Or.inl ⟨by kernel_rfl, ?hyz3351u2⟩) hHeld ?restz3351u2
                case hyz3351u2 => (intro w hSw; (try dsimp only at hSw); go_simp; first | done | with_reducible rfl)
                try simp only [Act.put, List.getElem_toArray, List.getElem_cons_zero, List.getElem_cons_succ, List.setIfInBounds_toArray, List.set_cons_zero, List.set_cons_succ]
                refine wpAnyH_take (i := 2) (oi := _) (v := ?vz3351u3) rfl (by kernel_rfl) (by kernel_rfl) (by kernel_rfl) (fun _ _ _ h => h) (Or.inl ⟨by kernel_rfl, ?hyz3351u3⟩) hHeld ?restz3351u3
                case hyz3351u3 => (intro w hSw; (try dsimp only at hSw); go_simp; first | done | with_reducible rfl)
                try simp only [Act.put, List.getElem_toArray, List.getElem_cons_zero, List.getElem_cons_succ, List.setIfInBounds_toArray, List.set_cons_zero, List.set_cons_succ]
                refine wpAnyH_take (i := 3) (oi := _) (v := ?vz3351u4) rfl (by kernel_rfl) (by kernel_rfl) (by kernel_rfl) (fun _ _ _ h => h) (Or.inl ⟨by kernel_rfl, ?hyz3351u4⟩) hHeld ?restz3351u4
                case hyz3351u4 => (intro w hSw; (try dsimp only at hSw); go_simp; first | done | with_reducible rfl)
                try simp only [Act.put, List.getElem_toArray, List.getElem_cons_zero, List.getElem_cons_succ, List.setIfInBounds_toArray, List.set_cons_zero, List.set_cons_succ]
                refine wpAnyH_take (i := 4) (oi := _) (v := ?vz3351u5) rfl (by kernel_rfl) (by kernel_rfl) (by kernel_rfl) (fun _ _ _ h => h) (Or.inl ⟨by kernel_rfl, ?hyz3351u5⟩) hHeld ?restz3351u5
                case hyz3351u5 => (intro w hSw; (try dsimp only at hSw); go_simp; first | done | with_reducible rfl)
                try simp only [Act.put, List.getElem_toArray, List.getElem_cons_zero, List.getElem_cons_succ, List.setIfInBounds_toArray, List.set_cons_zero, List.set_cons_succ]
                refine wpAnyH_ready (rs := [5]) (by kernel_rfl) (by simp) ?_
                refine AllReadyH.cons (o := _) rfl (fun K0 hK0 => ?_) AllReadyH.nil
                go_simp
                go_at_call 25
                refine (CGs.out _).mono ?_
                rintro e wz3351v6 ⟨rfl, bz3351v6⟩
                refine hK0.out _ _ (K.out _ (thenB (Below.refl _ _).drew bz3351v6)) (fun hHeld => ?_)
                clear hK0 K0
                try simp only [Act.put, List.getElem_toArray, List.getElem_cons_zero, List.getElem_cons_succ, List.setIfInBounds_toArray, List.set_cons_zero, List.set_cons_succ]
                refine wpAnyH_take (i := 6) (oi := _) (v := ?vz3351u7) rfl (by kernel_rfl) (by kernel_rfl) (by kernel_rfl) (fun _ _ _ h => h) (Or.inl ⟨by kernel_rfl, ?hyz3351u7⟩) hHeld ?restz3351u7
                case hyz3351u7 => (intro w hSw; (try dsimp only at hSw); go_simp; first | done | with_reducible rfl)
                try simp only [Act.put, List.getElem_toArray, List.getElem_cons_zero, List.getElem_cons_succ, List.setIfInBounds_toArray, List.set_cons_zero, List.set_cons_succ]
                refine wpAnyH_take (i := 7) (oi := _) (v := ?vz3351u8) rfl (by kernel_rfl) (by kernel_rfl) (by kernel_rfl) (fun _ _ _ h => h) (Or.inl ⟨by kernel_rfl, ?hyz3351u8⟩) hHeld ?restz3351u8
                case hyz3351u8 => (intro w hSw; (try dsimp only at hSw); go_simp; first | done | with_reducible rfl)
                try simp only [Act.put, List.getElem_toArray, List.getElem_cons_zero, List.getElem_cons_succ, List.setIfInBounds_toArray, List.set_cons_zero, List.set_cons_succ]
                refine wpAnyH_take (i := 8) (oi := _) (v := ?vz3351u9) rfl (by kernel_rfl) (by kernel_rfl) (by kernel_rfl) (fun _ _ _ h => h) (Or.inl ⟨by kernel_rfl, ?hyz3351u9⟩) hHeld ?restz3351u9
                case hyz3351u9 => (intro w hSw; (try dsimp only at hSw); go_simp; first | done | with_reducible rfl)
                try simp only [Act.put, List.getElem_toArray, List.getElem_cons_zero, List.getElem_cons_succ, List.setIfInBounds_toArray, List.set_cons_zero, List.set_cons_succ]
                refine wpAnyH_take (i := 9) (oi := _) (v := ?vz3351u10) rfl (by kernel_rfl) (by kernel_rfl) (by kernel_rfl) (fun _ _ _ h => h) (Or.inl ⟨by kernel_rfl, ?hyz3351u10⟩) hHeld ?restz3351u10
                case hyz3351u10 => (intro w hSw; (try dsimp only at hSw); go_simp; first | done | with_reducible rfl)
                try simp only [Act.put, List.getElem_toArray, List.getElem_cons_zero, List.getElem_cons_succ, List.setIfInBounds_toArray, List.set_cons_zero, List.set_cons_succ]
                refine wpAnyH_take (i := 10) (oi := _) (v := ?vz3351u11) rfl (by kernel_rfl) (by kernel_rfl) (by kernel_rfl) (fun _ _ _ h => h) (Or.inl ⟨by kernel_rfl, ?hyz3351u11⟩) hHeld ?restz3351u11
                case hyz3351u11 => (intro w hSw; (try dsimp only at hSw); go_simp; first | done | with_reducible rfl)
                try simp only [Act.put, List.getElem_toArray, List.getElem_cons_zero, List.getElem_cons_succ, List.setIfInBounds_toArray, List.set_cons_zero, List.set_cons_succ]
                refine wpAnyH_take (i := 11) (oi := _) (v := ?vz3351u12) rfl (by kernel_rfl) (by kernel_rfl) (by kernel_rfl) (fun _ _ _ h => h) (Or.inl ⟨by kernel_rfl, ?hyz3351u12⟩) hHeld ?restz3351u12
                case hyz3351u12 => (intro w hSw; (try dsimp only at hSw); go_simp; first | done | with_reducible rfl)
                try simp only [Act.put, List.getElem_toArray, List.getElem_cons_zero, List.getElem_cons_succ, List.setIfInBounds_toArray, List.set_cons_zero, List.set_cons_succ]
                refine wpAnyH_take (i := 12) (oi := _) (v := ?vz3351u13) rfl (by kernel_rfl) (by kernel_rfl) (by kernel_rfl) (fun _ _ _ h => h) (Or.inl ⟨by kernel_rfl, ?hyz3351u13⟩) hHeld ?restz3351u13
                case hyz3351u13 => (intro w hSw; (try dsimp only at hSw); go_simp; first | done | with_reducible rfl)
                try simp only [Act.put, List.getElem_toArray, List.getElem_cons_zero, List.getElem_cons_succ, List.setIfInBounds_toArray, List.set_cons_zero, List.set_cons_succ]
                refine wpAnyH_take (i := 13) (oi := _) (v := ?vz3351u14) rfl (by kernel_rfl) (by kernel_rfl) (by kernel_rfl) (fun _ _ _ h => h) (Or.inl ⟨by kernel_rfl, ?hyz3351u14⟩) hHeld ?restz3351u14
                case hyz3351u14 => (intro w hSw; (try dsimp only at hSw); go_simp; first | done | with_reducible rfl)
                try simp only [Act.put, List.getElem_toArray, List.getElem_cons_zero, List.getElem_cons_succ, List.setIfInBounds_toArray, List.set_cons_zero, List.set_cons_succ]
                refine wpAnyH_take (i := 14) (oi := _) (v := ?vz3351u15) rfl (by kernel_rfl) (by kernel_rfl) (by kernel_rfl) (fun _ _ _ h => h) (Or.inl ⟨by kernel_rfl, ?hyz3351u15⟩) hHeld ?restz3351u15
                case hyz3351u15 => (intro w hSw; (try dsimp only at hSw); go_simp; first | done | with_reducible rfl)
                try simp only [Act.put, List.getElem_toArray, List.getElem_cons_zero, List.getElem_cons_succ, List.setIfInBounds_toArray, List.set_cons_zero, List.set_cons_succ]
                refine wpAnyH_take (i := 15) (oi := _) (v := ?vz3351u16) rfl (by kernel_rfl) (by kernel_rfl) (by kernel_rfl) (fun _ _ _ h => h) (Or.inl ⟨by kernel_rfl, ?hyz3351u16⟩) hHeld ?restz3351u16
                case hyz3351u16 => (intro w hSw; (try dsimp only at hSw); go_simp; first | done | with_reducible rfl)
                try simp only [Act.put, List.getElem_toArray, List.getElem_cons_zero, List.getElem_cons_succ, List.setIfInBounds_toArray, List.set_cons_zero, List.set_cons_succ]
                refine wpAnyH_take (i := 16) (oi := _) (v := ?vz3351u17) rfl (by kernel_rfl) (by kernel_rfl) (by kernel_rfl) (fun _ _ _ h => h) (Or.inl ⟨by kernel_rfl, ?hyz3351u17⟩) hHeld ?restz3351u17
                case hyz3351u17 => (intro w hSw; (try dsimp only at hSw); go_simp; first | done | with_reducible rfl)
                try simp only [Act.put, List.getElem_toArray, List.getElem_cons_zero, List.getElem_cons_succ, List.setIfInBounds_toArray, List.set_cons_zero, List.set_cons_succ]
                refine wpAnyH_take (i := 17) (oi := _) (v := ?vz3351u18) rfl (by kernel_rfl) (by kernel_rfl) (by kernel_rfl) (fun _ _ _ h => h) (Or.inl ⟨by kernel_rfl, ?hyz3351u18⟩) hHeld ?restz3351u18
                case hyz3351u18 => (intro w hSw; (try dsimp only at hSw); go_simp; first | done | with_reducible rfl)
                try simp only [Act.put, List.getElem_toArray, List.getElem_cons_zero, List.getElem_cons_succ, List.setIfInBounds_toArray, List.set_cons_zero, List.set_cons_succ]
                refine wpAnyH_take (i := 18) (oi := _) (v := ?vz3351u19) rfl (by kernel_rfl) (by kernel_rfl) (by kernel_rfl) (fun _ _ _ h => h) (Or.inl ⟨by kernel_rfl, ?hyz3351u19⟩) hHeld ?restz3351u19
                case hyz3351u19 => (intro w hSw; (try dsimp only at hSw); go_simp; first | done | with_reducible rfl)
                try simp only [Act.put, List.getElem_toArray, List.getElem_cons_zero, List.getElem_cons_succ, List.setIfInBounds_toArray, List.set_cons_zero, List.set_cons_succ]
                refine wpAnyH_take (i := 19) (oi := _) (v := ?vz3351u20) rfl (by kernel_rfl) (by kernel_rfl) (by kernel_rfl) (fun _ _ _ h => h) (Or.inl ⟨by kernel_rfl, ?hyz3351u20⟩) hHeld ?restz3351u20
                case hyz3351u20 => (intro w hSw; (try dsimp only at hSw); go_simp; first | done | with_reducible rfl)
                try simp only [Act.put, List.getElem_toArray, List.getElem_cons_zero, List.getElem_cons_succ, List.setIfInBounds_toArray, List.set_cons_zero, List.set_cons_succ]
                refine wpAnyH_done (by kernel_rfl) ?_ _
                clear K hHeld
                have bacc : Below (w3352.alloc (.cells #[.int .i64 kc, .int .i64 kv] 42)).heap.size (w3352.alloc (.cells #[.int .i64 kc, .int .i64 kv] 42)) wz3351v6 := (thenB (Below.refl _ _).drew bz3351v6)
                replace VA := VA.kept bacc
                replace VG := VG.kept bacc
                replace B := thenB B bacc
                have Sz3351 := (bacc).size
                clear bacc
                simp only [World.size_alloc] at Sz3351
                clear bz3351v6
                obtain ⟨s_VA, f_VA, z_VA⟩ := VA.open
                obtain ⟨s_VG, f_VG, z_VG⟩ := VG.open
                have Bo := B
                go_wp2
                go_ret
                exact ⟨rfl, HB0.out.trans (Bo.mono HB0.out.size)⟩
              · have d6 : (kc != 0) = true := by simp [hk0]
                clear hge hkc hkv hk0 hb hi hfr hf hw hr
                replace B := thenB B (belowA wA (.cells #[.int .i64 y.t, .int .i64 y.b] 25))
                have VA := V.new wA [.int .i64 y.t, .int .i64 y.b] 25
                obtain ⟨s_VA, f_VA, z_VA⟩ := VA.open
                have Bo := B
                go_wp2_with fail
                refine (CS.out _).mono ?_
                rintro e w3301 ⟨rfl, b3301⟩
                clear s_VA f_VA z_VA
                have S3301 := b3301.size
                simp only [World.size_alloc] at S3301
                replace VA := VA.kept b3301
                replace B := thenB B b3301
                clear b3301
                obtain ⟨s_VA, f_VA, z_VA⟩ := VA.open
                have Bo := B
                go_wp2_with fail
                refine (CGi.out _).mono ?_
                rintro e w3302 ⟨rfl, b3302⟩
                clear s_VA f_VA z_VA
                have S3302 := b3302.size
                replace VA := VA.kept b3302
                replace B := thenB B b3302
                clear b3302
                obtain ⟨s_VA, f_VA, z_VA⟩ := VA.open
                have Bo := B
                replace VA := VA.kept (belowA w3302 (.cells #[.int .i64 kc, .int .i64 kv] 42))
                replace B := thenB B (belowA w3302 (.cells #[.int .i64 kc, .int .i64 kv] 42))
                have VG := V.new w3302 [.int .i64 kc, .int .i64 kv] 42
                clear s_VA f_VA z_VA
                obtain ⟨s_VA, f_VA, z_VA⟩ := VA.open
                obtain ⟨s_VG, f_VG, z_VG⟩ := VG.open
                have Bo := B
                go_upto_region 11 with fail
                clear s_VA f_VA z_VA s_VG f_VG z_VG
                have K : ∀ w' : World, Below (w3302.alloc (.cells #[.int .i64 kc, .int .i64 kv] 42)).heap.size (w3302.alloc (.cells #[.int .i64 kc, .int .i64 kv] 42)) w' → (w'.cell? ⟨wA.heap.size, 0, none⟩ = some (.int .i64 y.t) ∧ w'.cell? ⟨wA.heap.size, 1, none⟩ = some (.int .i64 y.b) ∧ w'.cell? ⟨w3302.heap.size, 0, none⟩ = some (.int .i64 kc) ∧ w'.cell? ⟨w3302.heap.size, 1, none⟩ = some (.int .i64 kv)) := fun w' h => ⟨(VA.kept h).2.1 0 (by simp), (VA.kept h).2.1 1 (by simp), (VG.kept h).2.1 0 (by simp), (VG.kept h).2.1 1 (by simp)⟩
                have K := Hid.mk K
                refine wp_region_held_drew (S := (fun w' => w'.cell? ⟨wA.heap.size, 0, none⟩ = some (.int .i64 y.t) ∧ w'.cell? ⟨wA.heap.size, 1, none⟩ = some (.int .i64 y.b) ∧ w'.cell? ⟨w3302.heap.size, 0, none⟩ = some (.int .i64 kc) ∧ w'.cell? ⟨w3302.heap.size, 1, none⟩ = some (.int .i64 kv))) (by kernel_rfl) (K.out _ (Below.refl _ _).drew) (fun hHeld => ?_)
                refine wpAnyH_take (i := 0) (oi := _) (v := ?vz3301u1) rfl (by kernel_rfl) (by kernel_rfl) (by kernel_rfl) (fun _ _ _ h => h) (Or.inl ⟨by kernel_rfl, ?hyz3301u1⟩) hHeld ?restz3301u1
                case hyz3301u1 => (intro w hSw; (try dsimp only at hSw); go_simp; first | done | with_reducible rfl)
                try simp only [Act.put, List.getElem_toArray, List.getElem_cons_zero, List.setIfInBounds_toArray, List.set_cons_zero, List.set_cons_succ]
                refine wpAnyH_take (i := 1) (oi := _) (v := ?vz3301u2) rfl (by kernel_rfl) (by kernel_rfl) (by kernel_rfl) (fun _ _ _ h => h) (Or.inl ⟨by kernel_rfl, ?hyz3301u2⟩) hHeld ?restz3301u2
                case hyz3301u2 => (intro w hSw; (try dsimp only at hSw); go_simp; first | done | with_reducible rfl)
                try simp only [Act.put, List.getElem_toArray, List.getElem_cons_zero, List.getElem_cons_succ, List.setIfInBounds_toArray, List.set_cons_zero, List.set_cons_succ]
                refine wpAnyH_take (i := 2) (oi := _) (v := ?vz3301u3) rfl (by kernel_rfl) (by kernel_rfl) (by kernel_rfl) (fun _ _ _ h => h) (Or.inl ⟨by kernel_rfl, ?hyz3301u3⟩) hHeld ?restz3301u3
                case hyz3301u3 => (intro w hSw; (try dsimp only at hSw); go_simp; first | done | with_reducible rfl)
                try simp only [Act.put, List.getElem_toArray, List.getElem_cons_zero, List.getElem_cons_succ, List.setIfInBounds_toArray, List.set_cons_zero, List.set_cons_succ]
                refine wpAnyH_take (i := 3) (oi := _) (v := ?vz3301u4) rfl (by kernel_rfl) (by kernel_rfl) (by kernel_rfl) (fun _ _ _ h => h) (Or.inl ⟨by kernel_rfl, ?hyz3301u4⟩) hHeld ?restz3301u4
                case hyz3301u4 => (intro w hSw; (try dsimp only at hSw); go_simp; first | done | with_reducible rfl)
                try simp only [Act.put, List.getElem_toArray, List.getElem_cons_zero, List.getElem_cons_succ, List.setIfInBounds_toArray, List.set_cons_zero, List.set_cons_succ]
                refine wpAnyH_take (i := 4) (oi := _) (v := ?vz3301u5) rfl (by kernel_rfl) (by kernel_rfl) (by kernel_rfl) (fun _ _ _ h => h) (Or.inl ⟨by kernel_rfl, ?hyz3301u5⟩) hHeld ?restz3301u5
                case hyz3301u5 => (intro w hSw; (try dsimp only at hSw); go_simp; first | done | with_reducible rfl)
                try simp only [Act.put, List.getElem_toArray, List.getElem_cons_zero, List.getElem_cons_succ, List.setIfInBounds_toArray, List.set_cons_zero, List.set_cons_succ]
                refine wpAnyH_ready (rs := [5]) (by kernel_rfl) (by simp) ?_
                refine AllReadyH.cons (o := _) rfl (fun K0 hK0 => ?_) AllReadyH.nil
                go_simp
                go_at_call 25
                refine (CGs.out _).mono ?_
                rintro e wz3301v6 ⟨rfl, bz3301v6⟩
                refine hK0.out _ _ (K.out _ (thenB (Below.refl _ _).drew bz3301v6)) (fun hHeld => ?_)
                clear hK0 K0
                try simp only [Act.put, List.getElem_toArray, List.getElem_cons_zero, List.getElem_cons_succ, List.setIfInBounds_toArray, List.set_cons_zero, List.set_cons_succ]
                refine wpAnyH_take (i := 6) (oi := _) (v := ?vz3301u7) rfl (by kernel_rfl) (by kernel_rfl) (by kernel_rfl) (fun _ _ _ h => h) (Or.inl ⟨by kernel_rfl, ?hyz3301u7⟩) hHeld ?restz3301u7
                case hyz3301u7 => (intro w hSw; (try dsimp only at hSw); go_simp; first | done | with_reducible rfl)
                try simp only [Act.put, List.getElem_toArray, List.getElem_cons_zero, List.getElem_cons_succ, List.setIfInBounds_toArray, List.set_cons_zero, List.set_cons_succ]
                refine wpAnyH_take (i := 7) (oi := _) (v := ?vz3301u8) rfl (by kernel_rfl) (by kernel_rfl) (by kernel_rfl) (fun _ _ _ h => h) (Or.inl ⟨by kernel_rfl, ?hyz3301u8⟩) hHeld ?restz3301u8
                case hyz3301u8 => (intro w hSw; (try dsimp only at hSw); go_simp; first | done | with_reducible rfl)
                try simp only [Act.put, List.getElem_toArray, List.getElem_cons_zero, List.getElem_cons_succ, List.setIfInBounds_toArray, List.set_cons_zero, List.set_cons_succ]
                refine wpAnyH_take (i := 8) (oi := _) (v := ?vz3301u9) rfl (by kernel_rfl) (by kernel_rfl) (by kernel_rfl) (fun _ _ _ h => h) (Or.inl ⟨by kernel_rfl, ?hyz3301u9⟩) hHeld ?restz3301u9
                case hyz3301u9 => (intro w hSw; (try dsimp only at hSw); go_simp; first | done | with_reducible rfl)
                try simp only [Act.put, List.getElem_toArray, List.getElem_cons_zero, List.getElem_cons_succ, List.setIfInBounds_toArray, List.set_cons_zero, List.set_cons_succ]
                refine wpAnyH_take (i := 9) (oi := _) (v := ?vz3301u10) rfl (by kernel_rfl) (by kernel_rfl) (by kernel_rfl) (fun _ _ _ h => h) (Or.inl ⟨by kernel_rfl, ?hyz3301u10⟩) hHeld ?restz3301u10
                case hyz3301u10 => (intro w hSw; (try dsimp only at hSw); go_simp; first | done | with_reducible rfl)
                try simp only [Act.put, List.getElem_toArray, List.getElem_cons_zero, List.getElem_cons_succ, List.setIfInBounds_toArray, List.set_cons_zero, List.set_cons_succ]
                refine wpAnyH_take (i := 10) (oi := _) (v := ?vz3301u11) rfl (by kernel_rfl) (by kernel_rfl) (by kernel_rfl) (fun _ _ _ h => h) (Or.inl ⟨by kernel_rfl, ?hyz3301u11⟩) hHeld ?restz3301u11
                case hyz3301u11 => (intro w hSw; (try dsimp only at hSw); go_simp; first | done | with_reducible rfl)
                try simp only [Act.put, List.getElem_toArray, List.getElem_cons_zero, List.getElem_cons_succ, List.setIfInBounds_toArray, List.set_cons_zero, List.set_cons_succ]
                refine wpAnyH_take (i := 11) (oi := _) (v := ?vz3301u12) rfl (by kernel_rfl) (by kernel_rfl) (by kernel_rfl) (fun _ _ _ h => h) (Or.inl ⟨by kernel_rfl, ?hyz3301u12⟩) hHeld ?restz3301u12
                case hyz3301u12 => (intro w hSw; (try dsimp only at hSw); go_simp; first | done | with_reducible rfl)
                try simp only [Act.put, List.getElem_toArray, List.getElem_cons_zero, List.getElem_cons_succ, List.setIfInBounds_toArray, List.set_cons_zero, List.set_cons_succ]
                refine wpAnyH_take (i := 12) (oi := _) (v := ?vz3301u13) rfl (by kernel_rfl) (by kernel_rfl) (by kernel_rfl) (fun _ _ _ h => h) (Or.inl ⟨by kernel_rfl, ?hyz3301u13⟩) hHeld ?restz3301u13
                case hyz3301u13 => (intro w hSw; (try dsimp only at hSw); go_simp; first | done | with_reducible rfl)
                try simp only [Act.put, List.getElem_toArray, List.getElem_cons_zero, List.getElem_cons_succ, List.setIfInBounds_toArray, List.set_cons_zero, List.set_cons_succ]
                refine wpAnyH_take (i := 13) (oi := _) (v := undef) rfl (by kernel_rfl) (by kernel_rfl) (by kernel_rfl) (fun _ _ _ h => h) (Or.inr ⟨by rfl, rfl⟩) hHeld ?_
                try simp only [Act.put, List.getElem_toArray, List.getElem_cons_zero, List.getElem_cons_succ, List.setIfInBounds_toArray, List.set_cons_zero, List.set_cons_succ]
                refine wpAnyH_take (i := 14) (oi := _) (v := undef) rfl (by kernel_rfl) (by kernel_rfl) (by kernel_rfl) (fun _ _ _ h => h) (Or.inr ⟨by rfl, rfl⟩) hHeld ?_
                try simp only [Act.put, List.getElem_toArray, List.getElem_cons_zero, List.getElem_cons_succ, List.setIfInBounds_toArray, List.set_cons_zero, List.set_cons_succ]
                refine wpAnyH_take (i := 15) (oi := _) (v := undef) rfl (by kernel_rfl) (by kernel_rfl) (by kernel_rfl) (fun _ _ _ h => h) (Or.inr ⟨by rfl, rfl⟩) hHeld ?_
                try simp only [Act.put, List.getElem_toArray, List.getElem_cons_zero, List.getElem_cons_succ, List.setIfInBounds_toArray, List.set_cons_zero, List.set_cons_succ]
                refine wpAnyH_take (i := 16) (oi := _) (v := undef) rfl (by kernel_rfl) (by kernel_rfl) (by kernel_rfl) (fun _ _ _ h => h) (Or.inr ⟨by rfl, rfl⟩) hHeld ?_
                try simp only [Act.put, List.getElem_toArray, List.getElem_cons_zero, List.getElem_cons_succ, List.setIfInBounds_toArray, List.set_cons_zero, List.set_cons_succ]
                refine wpAnyH_take (i := 17) (oi := _) (v := ?vz3301u14) rfl (by kernel_rfl) (by kernel_rfl) (by kernel_rfl) (fun _ _ _ h => h) (Or.inl ⟨by kernel_rfl, ?hyz3301u14⟩) hHeld ?restz3301u14
                case hyz3301u14 => (intro w hSw; (try dsimp only at hSw); go_simp; first | done | with_reducible rfl)
                try simp only [Act.put, List.getElem_toArray, List.getElem_cons_zero, List.getElem_cons_succ, List.setIfInBounds_toArray, List.set_cons_zero, List.set_cons_succ]
                refine wpAnyH_take (i := 18) (oi := _) (v := ?vz3301u15) rfl (by kernel_rfl) (by kernel_rfl) (by kernel_rfl) (fun _ _ _ h => h) (Or.inl ⟨by kernel_rfl, ?hyz3301u15⟩) hHeld ?restz3301u15
                case hyz3301u15 => (intro w hSw; (try dsimp only at hSw); go_simp; first | done | with_reducible rfl)
                try simp only [Act.put, List.getElem_toArray, List.getElem_cons_zero, List.getElem_cons_succ, List.setIfInBounds_toArray, List.set_cons_zero, List.set_cons_succ]
                refine wpAnyH_take (i := 19) (oi := _) (v := ?vz3301u16) rfl (by kernel_rfl) (by kernel_rfl) (by kernel_rfl) (fun _ _ _ h => h) (Or.inl ⟨by kernel_rfl, ?hyz3301u16⟩) hHeld ?restz3301u16
                case hyz3301u16 => (intro w hSw; (try dsimp only at hSw); go_simp; first | done | with_reducible rfl)
                try simp only [Act.put, List.getElem_toArray, List.getElem_cons_zero, List.getElem_cons_succ, List.setIfInBounds_toArray, List.set_cons_zero, List.set_cons_succ]
                refine wpAnyH_done (by kernel_rfl) ?_ _
                clear K hHeld
                have bacc : Below (w3302.alloc (.cells #[.int .i64 kc, .int .i64 kv] 42)).heap.size (w3302.alloc (.cells #[.int .i64 kc, .int .i64 kv] 42)) wz3301v6 := (thenB (Below.refl _ _).drew bz3301v6)
                replace VA := VA.kept bacc
                replace VG := VG.kept bacc
                replace B := thenB B bacc
                have Sz3301 := (bacc).size
                clear bacc
                simp only [World.size_alloc] at Sz3301
                clear bz3301v6
                obtain ⟨s_VA, f_VA, z_VA⟩ := VA.open
                obtain ⟨s_VG, f_VG, z_VG⟩ := VG.open
                have Bo := B
                go_wp2
                go_ret
                exact ⟨rfl, HB0.out.trans (Bo.mono HB0.out.size)⟩
            · by_cases hb2 : s < (y.t - 32 + 1)
              · have d4 : decide (s < (y.t - 32 + 1)) = true := by simp [hb2]
                by_cases hk0 : kc = 0
                · have d6 : (kc != 0) = false := by simp [hk0]
                  have d7 : decide ((y.t - 32 + 1) ≤ kv) = true := by simp [hge hk0]
                  clear hge hkc hkv hk0 hb hi hfr hf hw hr
                  replace B := thenB B (belowA wA (.cells #[.int .i64 y.t, .int .i64 y.b] 25))
                  have VA := V.new wA [.int .i64 y.t, .int .i64 y.b] 25
                  obtain ⟨s_VA, f_VA, z_VA⟩ := VA.open
                  have Bo := B
                  go_wp2_with fail
                  refine (CS.out _).mono ?_
                  rintro e w3151 ⟨rfl, b3151⟩
                  clear s_VA f_VA z_VA
                  have S3151 := b3151.size
                  simp only [World.size_alloc] at S3151
                  replace VA := VA.kept b3151
                  replace B := thenB B b3151
                  clear b3151
                  obtain ⟨s_VA, f_VA, z_VA⟩ := VA.open
                  have Bo := B
                  go_wp2_with fail
                  refine (CGi.out _).mono ?_
                  rintro e w3152 ⟨rfl, b3152⟩
                  clear s_VA f_VA z_VA
                  have S3152 := b3152.size
                  replace VA := VA.kept b3152
                  replace B := thenB B b3152
                  clear b3152
                  obtain ⟨s_VA, f_VA, z_VA⟩ := VA.open
                  have Bo := B
                  replace VA := VA.kept (belowA w3152 (.cells #[.int .i64 kc, .int .i64 kv] 42))
                  replace B := thenB B (belowA w3152 (.cells #[.int .i64 kc, .int .i64 kv] 42))
                  have VG := V.new w3152 [.int .i64 kc, .int .i64 kv] 42
                  clear s_VA f_VA z_VA
                  obtain ⟨s_VA, f_VA, z_VA⟩ := VA.open
                  obtain ⟨s_VG, f_VG, z_VG⟩ := VG.open
                  have Bo := B
                  go_upto_region 11 with fail
                  clear s_VA f_VA z_VA s_VG f_VG z_VG
                  have K : ∀ w' : World, Below (w3152.alloc (.cells #[.int .i64 kc, .int .i64 kv] 42)).heap.size (w3152.alloc (.cells #[.int .i64 kc, .int .i64 kv] 42)) w' → (w'.cell? ⟨wA.heap.size, 0, none⟩ = some (.int .i64 y.t) ∧ w'.cell? ⟨wA.heap.size, 1, none⟩ = some (.int .i64 y.b) ∧ w'.cell? ⟨w3152.heap.size, 0, none⟩ = some (.int .i64 kc) ∧ w'.cell? ⟨w3152.heap.size, 1, none⟩ = some (.int .i64 kv)) := fun w' h => ⟨(VA.kept h).2.1 0 (by simp), (VA.kept h).2.1 1 (by simp), (VG.kept h).2.1 0 (by simp), (VG.kept h).2.1 1 (by simp)⟩
                  have K := Hid.mk K
                  refine wp_region_held_drew (S := (fun w' => w'.cell? ⟨wA.heap.size, 0, none⟩ = some (.int .i64 y.t) ∧ w'.cell? ⟨wA.heap.size, 1, none⟩ = some (.int .i64 y.b) ∧ w'.cell? ⟨w3152.heap.size, 0, none⟩ = some (.int .i64 kc) ∧ w'.cell? ⟨w3152.heap.size, 1, none⟩ = some (.int .i64 kv))) (by kernel_rfl) (K.out _ (Below.refl _ _).drew) (fun hHeld => ?_)
                  refine wpAnyH_take (i := 0) (oi := _) (v := ?vz3151u1) rfl (by kernel_rfl) (by kernel_rfl) (by kernel_rfl) (fun _ _ _ h => h) (Or.inl ⟨by kernel_rfl, ?hyz3151u1⟩) hHeld ?restz3151u1
                  case hyz3151u1 => (intro w hSw; (try dsimp only at hSw); go_simp; first | done | with_reducible rfl)
                  try simp only [Act.put, List.getElem_toArray, List.getElem_cons_zero, List.setIfInBounds_toArray, List.set_cons_zero, List.set_cons_succ]
                  refine wpAnyH_take (i := 1) (oi := _) (v := ?vz3151u2) rfl (by kernel_rfl) (by kernel_rfl) (by kernel_rfl) (fun _ _ _ h => h) (Or.inl ⟨by kernel_rfl, ?hyz3151u2⟩) hHeld ?restz3151u2
                  case hyz3151u2 => (intro w hSw; (try dsimp only at hSw); go_simp; first | done | with_reducible rfl)
                  try simp only [Act.put, List.getElem_toArray, List.getElem_cons_zero, List.getElem_cons_succ, List.setIfInBounds_toArray, List.set_cons_zero, List.set_cons_succ]
                  refine wpAnyH_take (i := 2) (oi := _) (v := ?vz3151u3) rfl (by kernel_rfl) (by kernel_rfl) (by kernel_rfl) (fun _ _ _ h => h) (Or.inl ⟨by kernel_rfl, ?hyz3151u3⟩) hHeld ?restz3151u3
                  case hyz3151u3 => (intro w hSw; (try dsimp only at hSw); go_simp; first | done | with_reducible rfl)
                  try simp only [Act.put, List.getElem_toArray, List.getElem_cons_zero, List.getElem_cons_succ, List.setIfInBounds_toArray, List.set_cons_zero, List.set_cons_succ]
                  refine wpAnyH_take (i := 3) (oi := _) (v := ?vz3151u4) rfl (by kernel_rfl) (by kernel_rfl) (by kernel_rfl) (fun _ _ _ h => h) (Or.inl ⟨by kernel_rfl, ?hyz3151u4⟩) hHeld ?restz3151u4
                  case hyz3151u4 => (intro w hSw; (try dsimp only at hSw); go_simp; first | done | with_reducible rfl)
                  try simp only [Act.put, List.getElem_toArray, List.getElem_cons_zero, List.getElem_cons_succ, List.setIfInBounds_toArray, List.set_cons_zero, List.set_cons_succ]
                  refine wpAnyH_take (i := 4) (oi := _) (v := ?vz3151u5) rfl (by kernel_rfl) (by kernel_rfl) (by kernel_rfl) (fun _ _ _ h => h) (Or.inl ⟨by kernel_rfl, ?hyz3151u5⟩) hHeld ?restz3151u5
                  case hyz3151u5 => (intro w hSw; (try dsimp only at hSw); go_simp; first | done | with_reducible rfl)
                  try simp only [Act.put, List.getElem_toArray, List.getElem_cons_zero, List.getElem_cons_succ, List.setIfInBounds_toArray, List.set_cons_zero, List.set_cons_succ]
                  refine wpAnyH_ready (rs := [5]) (by kernel_rfl) (by simp) ?_
                  refine AllReadyH.cons (o := _) rfl (fun K0 hK0 => ?_) AllReadyH.nil
                  go_simp
                  go_at_call 25
                  refine (CGs.out _).mono ?_
                  rintro e wz3151v6 ⟨rfl, bz3151v6⟩
                  refine hK0.out _ _ (K.out _ (thenB (Below.refl _ _).drew bz3151v6)) (fun hHeld => ?_)
                  clear hK0 K0
                  try simp only [Act.put, List.getElem_toArray, List.getElem_cons_zero, List.getElem_cons_succ, List.setIfInBounds_toArray, List.set_cons_zero, List.set_cons_succ]
                  refine wpAnyH_take (i := 6) (oi := _) (v := ?vz3151u7) rfl (by kernel_rfl) (by kernel_rfl) (by kernel_rfl) (fun _ _ _ h => h) (Or.inl ⟨by kernel_rfl, ?hyz3151u7⟩) hHeld ?restz3151u7
                  case hyz3151u7 => (intro w hSw; (try dsimp only at hSw); go_simp; first | done | with_reducible rfl)
                  try simp only [Act.put, List.getElem_toArray, List.getElem_cons_zero, List.getElem_cons_succ, List.setIfInBounds_toArray, List.set_cons_zero, List.set_cons_succ]
                  refine wpAnyH_take (i := 7) (oi := _) (v := ?vz3151u8) rfl (by kernel_rfl) (by kernel_rfl) (by kernel_rfl) (fun _ _ _ h => h) (Or.inl ⟨by kernel_rfl, ?hyz3151u8⟩) hHeld ?restz3151u8
                  case hyz3151u8 => (intro w hSw; (try dsimp only at hSw); go_simp; first | done | with_reducible rfl)
                  try simp only [Act.put, List.getElem_toArray, List.getElem_cons_zero, List.getElem_cons_succ, List.setIfInBounds_toArray, List.set_cons_zero, List.set_cons_succ]
                  refine wpAnyH_take (i := 8) (oi := _) (v := ?vz3151u9) rfl (by kernel_rfl) (by kernel_rfl) (by kernel_rfl) (fun _ _ _ h => h) (Or.inl ⟨by kernel_rfl, ?hyz3151u9⟩) hHeld ?restz3151u9
                  case hyz3151u9 => (intro w hSw; (try dsimp only at hSw); go_simp; first | done | with_reducible rfl)
                  try simp only [Act.put, List.getElem_toArray, List.getElem_cons_zero, List.getElem_cons_succ, List.setIfInBounds_toArray, List.set_cons_zero, List.set_cons_succ]
                  refine wpAnyH_take (i := 9) (oi := _) (v := ?vz3151u10) rfl (by kernel_rfl) (by kernel_rfl) (by kernel_rfl) (fun _ _ _ h => h) (Or.inl ⟨by kernel_rfl, ?hyz3151u10⟩) hHeld ?restz3151u10
                  case hyz3151u10 => (intro w hSw; (try dsimp only at hSw); go_simp; first | done | with_reducible rfl)
                  try simp only [Act.put, List.getElem_toArray, List.getElem_cons_zero, List.getElem_cons_succ, List.setIfInBounds_toArray, List.set_cons_zero, List.set_cons_succ]
                  refine wpAnyH_take (i := 10) (oi := _) (v := ?vz3151u11) rfl (by kernel_rfl) (by kernel_rfl) (by kernel_rfl) (fun _ _ _ h => h) (Or.inl ⟨by kernel_rfl, ?hyz3151u11⟩) hHeld ?restz3151u11
                  case hyz3151u11 => (intro w hSw; (try dsimp only at hSw); go_simp; first | done | with_reducible rfl)
                  try simp only [Act.put, List.getElem_toArray, List.getElem_cons_zero, List.getElem_cons_succ, List.setIfInBounds_toArray, List.set_cons_zero, List.set_cons_succ]
                  refine wpAnyH_take (i := 11) (oi := _) (v := ?vz3151u12) rfl (by kernel_rfl) (by kernel_rfl) (by kernel_rfl) (fun _ _ _ h => h) (Or.inl ⟨by kernel_rfl, ?hyz3151u12⟩) hHeld ?restz3151u12
                  case hyz3151u12 => (intro w hSw; (try dsimp only at hSw); go_simp; first | done | with_reducible rfl)
                  try simp only [Act.put, List.getElem_toArray, List.getElem_cons_zero, List.getElem_cons_succ, List.setIfInBounds_toArray, List.set_cons_zero, List.set_cons_succ]
                  refine wpAnyH_take (i := 12) (oi := _) (v := ?vz3151u13) rfl (by kernel_rfl) (by kernel_rfl) (by kernel_rfl) (fun _ _ _ h => h) (Or.inl ⟨by kernel_rfl, ?hyz3151u13⟩) hHeld ?restz3151u13
                  case hyz3151u13 => (intro w hSw; (try dsimp only at hSw); go_simp; first | done | with_reducible rfl)
                  try simp only [Act.put, List.getElem_toArray, List.getElem_cons_zero, List.getElem_cons_succ, List.setIfInBounds_toArray, List.set_cons_zero, List.set_cons_succ]
                  refine wpAnyH_take (i := 13) (oi := _) (v := ?vz3151u14) rfl (by kernel_rfl) (by kernel_rfl) (by kernel_rfl) (fun _ _ _ h => h) (Or.inl ⟨by kernel_rfl, ?hyz3151u14⟩) hHeld ?restz3151u14
                  case hyz3151u14 => (intro w hSw; (try dsimp only at hSw); go_simp; first | done | with_reducible rfl)
                  try simp only [Act.put, List.getElem_toArray, List.getElem_cons_zero, List.getElem_cons_succ, List.setIfInBounds_toArray, List.set_cons_zero, List.set_cons_succ]
                  refine wpAnyH_take (i := 14) (oi := _) (v := ?vz3151u15) rfl (by kernel_rfl) (by kernel_rfl) (by kernel_rfl) (fun _ _ _ h => h) (Or.inl ⟨by kernel_rfl, ?hyz3151u15⟩) hHeld ?restz3151u15
                  case hyz3151u15 => (intro w hSw; (try dsimp only at hSw); go_simp; first | done | with_reducible rfl)
                  try simp only [Act.put, List.getElem_toArray, List.getElem_cons_zero, List.getElem_cons_succ, List.setIfInBounds_toArray, List.set_cons_zero, List.set_cons_succ]
                  refine wpAnyH_take (i := 15) (oi := _) (v := ?vz3151u16) rfl (by kernel_rfl) (by kernel_rfl) (by kernel_rfl) (fun _ _ _ h => h) (Or.inl ⟨by kernel_rfl, ?hyz3151u16⟩) hHeld ?restz3151u16
                  case hyz3151u16 => (intro w hSw; (try dsimp only at hSw); go_simp; first | done | with_reducible rfl)
                  try simp only [Act.put, List.getElem_toArray, List.getElem_cons_zero, List.getElem_cons_succ, List.setIfInBounds_toArray, List.set_cons_zero, List.set_cons_succ]
                  refine wpAnyH_take (i := 16) (oi := _) (v := ?vz3151u17) rfl (by kernel_rfl) (by kernel_rfl) (by kernel_rfl) (fun _ _ _ h => h) (Or.inl ⟨by kernel_rfl, ?hyz3151u17⟩) hHeld ?restz3151u17
                  case hyz3151u17 => (intro w hSw; (try dsimp only at hSw); go_simp; first | done | with_reducible rfl)
                  try simp only [Act.put, List.getElem_toArray, List.getElem_cons_zero, List.getElem_cons_succ, List.setIfInBounds_toArray, List.set_cons_zero, List.set_cons_succ]
                  refine wpAnyH_take (i := 17) (oi := _) (v := ?vz3151u18) rfl (by kernel_rfl) (by kernel_rfl) (by kernel_rfl) (fun _ _ _ h => h) (Or.inl ⟨by kernel_rfl, ?hyz3151u18⟩) hHeld ?restz3151u18
                  case hyz3151u18 => (intro w hSw; (try dsimp only at hSw); go_simp; first | done | with_reducible rfl)
                  try simp only [Act.put, List.getElem_toArray, List.getElem_cons_zero, List.getElem_cons_succ, List.setIfInBounds_toArray, List.set_cons_zero, List.set_cons_succ]
                  refine wpAnyH_take (i := 18) (oi := _) (v := ?vz3151u19) rfl (by kernel_rfl) (by kernel_rfl) (by kernel_rfl) (fun _ _ _ h => h) (Or.inl ⟨by kernel_rfl, ?hyz3151u19⟩) hHeld ?restz3151u19
                  case hyz3151u19 => (intro w hSw; (try dsimp only at hSw); go_simp; first | done | with_reducible rfl)
                  try simp only [Act.put, List.getElem_toArray, List.getElem_cons_zero, List.getElem_cons_succ, List.setIfInBounds_toArray, List.set_cons_zero, List.set_cons_succ]
                  refine wpAnyH_take (i := 19) (oi := _) (v := ?vz3151u20) rfl (by kernel_rfl) (by kernel_rfl) (by kernel_rfl) (fun _ _ _ h => h) (Or.inl ⟨by kernel_rfl, ?hyz3151u20⟩) hHeld ?restz3151u20
                  case hyz3151u20 => (intro w hSw; (try dsimp only at hSw); go_simp; first | done | with_reducible rfl)
                  try simp only [Act.put, List.getElem_toArray, List.getElem_cons_zero, List.getElem_cons_succ, List.setIfInBounds_toArray, List.set_cons_zero, List.set_cons_succ]
                  refine wpAnyH_done (by kernel_rfl) ?_ _
                  clear K hHeld
                  have bacc : Below (w3152.alloc (.cells #[.int .i64 kc, .int .i64 kv] 42)).heap.size (w3152.alloc (.cells #[.int .i64 kc, .int .i64 kv] 42)) wz3151v6 := (thenB (Below.refl _ _).drew bz3151v6)
                  replace VA := VA.kept bacc
                  replace VG := VG.kept bacc
                  replace B := thenB B bacc
                  have Sz3151 := (bacc).size
                  clear bacc
                  simp only [World.size_alloc] at Sz3151
                  clear bz3151v6
                  obtain ⟨s_VA, f_VA, z_VA⟩ := VA.open
                  obtain ⟨s_VG, f_VG, z_VG⟩ := VG.open
                  have Bo := B
                  go_wp2
                  go_ret
                  exact ⟨rfl, HB0.out.trans (Bo.mono HB0.out.size)⟩
                · have d6 : (kc != 0) = true := by simp [hk0]
                  clear hge hkc hkv hk0 hb hi hfr hf hw hr
                  replace B := thenB B (belowA wA (.cells #[.int .i64 y.t, .int .i64 y.b] 25))
                  have VA := V.new wA [.int .i64 y.t, .int .i64 y.b] 25
                  obtain ⟨s_VA, f_VA, z_VA⟩ := VA.open
                  have Bo := B
                  go_wp2_with fail
                  refine (CS.out _).mono ?_
                  rintro e w3101 ⟨rfl, b3101⟩
                  clear s_VA f_VA z_VA
                  have S3101 := b3101.size
                  simp only [World.size_alloc] at S3101
                  replace VA := VA.kept b3101
                  replace B := thenB B b3101
                  clear b3101
                  obtain ⟨s_VA, f_VA, z_VA⟩ := VA.open
                  have Bo := B
                  go_wp2_with fail
                  refine (CGi.out _).mono ?_
                  rintro e w3102 ⟨rfl, b3102⟩
                  clear s_VA f_VA z_VA
                  have S3102 := b3102.size
                  replace VA := VA.kept b3102
                  replace B := thenB B b3102
                  clear b3102
                  obtain ⟨s_VA, f_VA, z_VA⟩ := VA.open
                  have Bo := B
                  replace VA := VA.kept (belowA w3102 (.cells #[.int .i64 kc, .int .i64 kv] 42))
                  replace B := thenB B (belowA w3102 (.cells #[.int .i64 kc, .int .i64 kv] 42))
                  have VG := V.new w3102 [.int .i64 kc, .int .i64 kv] 42
                  clear s_VA f_VA z_VA
                  obtain ⟨s_VA, f_VA, z_VA⟩ := VA.open
                  obtain ⟨s_VG, f_VG, z_VG⟩ := VG.open
                  have Bo := B
                  go_upto_region 11 with fail
                  clear s_VA f_VA z_VA s_VG f_VG z_VG
                  have K : ∀ w' : World, Below (w3102.alloc (.cells #[.int .i64 kc, .int .i64 kv] 42)).heap.size (w3102.alloc (.cells #[.int .i64 kc, .int .i64 kv] 42)) w' → (w'.cell? ⟨wA.heap.size, 0, none⟩ = some (.int .i64 y.t) ∧ w'.cell? ⟨wA.heap.size, 1, none⟩ = some (.int .i64 y.b) ∧ w'.cell? ⟨w3102.heap.size, 0, none⟩ = some (.int .i64 kc) ∧ w'.cell? ⟨w3102.heap.size, 1, none⟩ = some (.int .i64 kv)) := fun w' h => ⟨(VA.kept h).2.1 0 (by simp), (VA.kept h).2.1 1 (by simp), (VG.kept h).2.1 0 (by simp), (VG.kept h).2.1 1 (by simp)⟩
                  have K := Hid.mk K
                  refine wp_region_held_drew (S := (fun w' => w'.cell? ⟨wA.heap.size, 0, none⟩ = some (.int .i64 y.t) ∧ w'.cell? ⟨wA.heap.size, 1, none⟩ = some (.int .i64 y.b) ∧ w'.cell? ⟨w3102.heap.size, 0, none⟩ = some (.int .i64 kc) ∧ w'.cell? ⟨w3102.heap.size, 1, none⟩ = some (.int .i64 kv))) (by kernel_rfl) (K.out _ (Below.refl _ _).drew) (fun hHeld => ?_)
                  refine wpAnyH_take (i := 0) (oi := _) (v := ?vz3101u1) rfl (by kernel_rfl) (by kernel_rfl) (by kernel_rfl) (fun _ _ _ h => h) (Or.inl ⟨by kernel_rfl, ?hyz3101u1⟩) hHeld ?restz3101u1
                  case hyz3101u1 => (intro w hSw; (try dsimp only at hSw); go_simp; first | done | with_reducible rfl)
                  try simp only [Act.put, List.getElem_toArray, List.getElem_cons_zero, List.setIfInBounds_toArray, List.set_cons_zero, List.set_cons_succ]
                  refine wpAnyH_take (i := 1) (oi := _) (v := ?vz3101u2) rfl (by kernel_rfl) (by kernel_rfl) (by kernel_rfl) (fun _ _ _ h => h) (Or.inl ⟨by kernel_rfl, ?hyz3101u2⟩) hHeld ?restz3101u2
                  case hyz3101u2 => (intro w hSw; (try dsimp only at hSw); go_simp; first | done | with_reducible rfl)
                  try simp only [Act.put, List.getElem_toArray, List.getElem_cons_zero, List.getElem_cons_succ, List.setIfInBounds_toArray, List.set_cons_zero, List.set_cons_succ]
                  refine wpAnyH_take (i := 2) (oi := _) (v := ?vz3101u3) rfl (by kernel_rfl) (by kernel_rfl) (by kernel_rfl) (fun _ _ _ h => h) (Or.inl ⟨by kernel_rfl, ?hyz3101u3⟩) hHeld ?restz3101u3
                  case hyz3101u3 => (intro w hSw; (try dsimp only at hSw); go_simp; first | done | with_reducible rfl)
                  try simp only [Act.put, List.getElem_toArray, List.getElem_cons_zero, List.getElem_cons_succ, List.setIfInBounds_toArray, List.set_cons_zero, List.set_cons_succ]
                  refine wpAnyH_take (i := 3) (oi := _) (v := ?vz3101u4) rfl (by kernel_rfl) (by kernel_rfl) (by kernel_rfl) (fun _ _ _ h => h) (Or.inl ⟨by kernel_rfl, ?hyz3101u4⟩) hHeld ?restz3101u4
                  case hyz3101u4 => (intro w hSw; (try dsimp only at hSw); go_simp; first | done | with_reducible rfl)
                  try simp only [Act.put, List.getElem_toArray, List.getElem_cons_zero, List.getElem_cons_succ, List.setIfInBounds_toArray, List.set_cons_zero, List.set_cons_succ]
                  refine wpAnyH_take (i := 4) (oi := _) (v := ?vz3101u5) rfl (by kernel_rfl) (by kernel_rfl) (by kernel_rfl) (fun _ _ _ h => h) (Or.inl ⟨by kernel_rfl, ?hyz3101u5⟩) hHeld ?restz3101u5
                  case hyz3101u5 => (intro w hSw; (try dsimp only at hSw); go_simp; first | done | with_reducible rfl)
                  try simp only [Act.put, List.getElem_toArray, List.getElem_cons_zero, List.getElem_cons_succ, List.setIfInBounds_toArray, List.set_cons_zero, List.set_cons_succ]
                  refine wpAnyH_ready (rs := [5]) (by kernel_rfl) (by simp) ?_
                  refine AllReadyH.cons (o := _) rfl (fun K0 hK0 => ?_) AllReadyH.nil
                  go_simp
                  go_at_call 25
                  refine (CGs.out _).mono ?_
                  rintro e wz3101v6 ⟨rfl, bz3101v6⟩
                  refine hK0.out _ _ (K.out _ (thenB (Below.refl _ _).drew bz3101v6)) (fun hHeld => ?_)
                  clear hK0 K0
                  try simp only [Act.put, List.getElem_toArray, List.getElem_cons_zero, List.getElem_cons_succ, List.setIfInBounds_toArray, List.set_cons_zero, List.set_cons_succ]
                  refine wpAnyH_take (i := 6) (oi := _) (v := ?vz3101u7) rfl (by kernel_rfl) (by kernel_rfl) (by kernel_rfl) (fun _ _ _ h => h) (Or.inl ⟨by kernel_rfl, ?hyz3101u7⟩) hHeld ?restz3101u7
                  case hyz3101u7 => (intro w hSw; (try dsimp only at hSw); go_simp; first | done | with_reducible rfl)
                  try simp only [Act.put, List.getElem_toArray, List.getElem_cons_zero, List.getElem_cons_succ, List.setIfInBounds_toArray, List.set_cons_zero, List.set_cons_succ]
                  refine wpAnyH_take (i := 7) (oi := _) (v := ?vz3101u8) rfl (by kernel_rfl) (by kernel_rfl) (by kernel_rfl) (fun _ _ _ h => h) (Or.inl ⟨by kernel_rfl, ?hyz3101u8⟩) hHeld ?restz3101u8
                  case hyz3101u8 => (intro w hSw; (try dsimp only at hSw); go_simp; first | done | with_reducible rfl)
                  try simp only [Act.put, List.getElem_toArray, List.getElem_cons_zero, List.getElem_cons_succ, List.setIfInBounds_toArray, List.set_cons_zero, List.set_cons_succ]
                  refine wpAnyH_take (i := 8) (oi := _) (v := ?vz3101u9) rfl (by kernel_rfl) (by kernel_rfl) (by kernel_rfl) (fun _ _ _ h => h) (Or.inl ⟨by kernel_rfl, ?hyz3101u9⟩) hHeld ?restz3101u9
                  case hyz3101u9 => (intro w hSw; (try dsimp only at hSw); go_simp; first | done | with_reducible rfl)
                  try simp only [Act.put, List.getElem_toArray, List.getElem_cons_zero, List.getElem_cons_succ, List.setIfInBounds_toArray, List.set_cons_zero, List.set_cons_succ]
                  refine wpAnyH_take (i := 9) (oi := _) (v := ?vz3101u10) rfl (by kernel_rfl) (by kernel_rfl) (by kernel_rfl) (fun _ _ _ h => h) (Or.inl ⟨by kernel_rfl, ?hyz3101u10⟩) hHeld ?restz3101u10
                  case hyz3101u10 => (intro w hSw; (try dsimp only at hSw); go_simp; first | done | with_reducible rfl)
                  try simp only [Act.put, List.getElem_toArray, List.getElem_cons_zero, List.getElem_cons_succ, List.setIfInBounds_toArray, List.set_cons_zero, List.set_cons_succ]
                  refine wpAnyH_take (i := 10) (oi := _) (v := ?vz3101u11) rfl (by kernel_rfl) (by kernel_rfl) (by kernel_rfl) (fun _ _ _ h => h) (Or.inl ⟨by kernel_rfl, ?hyz3101u11⟩) hHeld ?restz3101u11
                  case hyz3101u11 => (intro w hSw; (try dsimp only at hSw); go_simp; first | done | with_reducible rfl)
                  try simp only [Act.put, List.getElem_toArray, List.getElem_cons_zero, List.getElem_cons_succ, List.setIfInBounds_toArray, List.set_cons_zero, List.set_cons_succ]
                  refine wpAnyH_take (i := 11) (oi := _) (v := ?vz3101u12) rfl (by kernel_rfl) (by kernel_rfl) (by kernel_rfl) (fun _ _ _ h => h) (Or.inl ⟨by kernel_rfl, ?hyz3101u12⟩) hHeld ?restz3101u12
                  case hyz3101u12 => (intro w hSw; (try dsimp only at hSw); go_simp; first | done | with_reducible rfl)
                  try simp only [Act.put, List.getElem_toArray, List.getElem_cons_zero, List.getElem_cons_succ, List.setIfInBounds_toArray, List.set_cons_zero, List.set_cons_succ]
                  refine wpAnyH_take (i := 12) (oi := _) (v := ?vz3101u13) rfl (by kernel_rfl) (by kernel_rfl) (by kernel_rfl) (fun _ _ _ h => h) (Or.inl ⟨by kernel_rfl, ?hyz3101u13⟩) hHeld ?restz3101u13
                  case hyz3101u13 => (intro w hSw; (try dsimp only at hSw); go_simp; first | done | with_reducible rfl)
                  try simp only [Act.put, List.getElem_toArray, List.getElem_cons_zero, List.getElem_cons_succ, List.setIfInBounds_toArray, List.set_cons_zero, List.set_cons_succ]
                  refine wpAnyH_take (i := 13) (oi := _) (v := undef) rfl (by kernel_rfl) (by kernel_rfl) (by kernel_rfl) (fun _ _ _ h => h) (Or.inr ⟨by rfl, rfl⟩) hHeld ?_
                  try simp only [Act.put, List.getElem_toArray, List.getElem_cons_zero, List.getElem_cons_succ, List.setIfInBounds_toArray, List.set_cons_zero, List.set_cons_succ]
                  refine wpAnyH_take (i := 14) (oi := _) (v := undef) rfl (by kernel_rfl) (by kernel_rfl) (by kernel_rfl) (fun _ _ _ h => h) (Or.inr ⟨by rfl, rfl⟩) hHeld ?_
                  try simp only [Act.put, List.getElem_toArray, List.getElem_cons_zero, List.getElem_cons_succ, List.setIfInBounds_toArray, List.set_cons_zero, List.set_cons_succ]
                  refine wpAnyH_take (i := 15) (oi := _) (v := undef) rfl (by kernel_rfl) (by kernel_rfl) (by kernel_rfl) (fun _ _ _ h => h) (Or.inr ⟨by rfl, rfl⟩) hHeld ?_
                  try simp only [Act.put, List.getElem_toArray, List.getElem_cons_zero, List.getElem_cons_succ, List.setIfInBounds_toArray, List.set_cons_zero, List.set_cons_succ]
                  refine wpAnyH_take (i := 16) (oi := _) (v := undef) rfl (by kernel_rfl) (by kernel_rfl) (by kernel_rfl) (fun _ _ _ h => h) (Or.inr ⟨by rfl, rfl⟩) hHeld ?_
                  try simp only [Act.put, List.getElem_toArray, List.getElem_cons_zero, List.getElem_cons_succ, List.setIfInBounds_toArray, List.set_cons_zero, List.set_cons_succ]
                  refine wpAnyH_take (i := 17) (oi := _) (v := ?vz3101u14) rfl (by kernel_rfl) (by kernel_rfl) (by kernel_rfl) (fun _ _ _ h => h) (Or.inl ⟨by kernel_rfl, ?hyz3101u14⟩) hHeld ?restz3101u14
                  case hyz3101u14 => (intro w hSw; (try dsimp only at hSw); go_simp; first | done | with_reducible rfl)
                  try simp only [Act.put, List.getElem_toArray, List.getElem_cons_zero, List.getElem_cons_succ, List.setIfInBounds_toArray, List.set_cons_zero, List.set_cons_succ]
                  refine wpAnyH_take (i := 18) (oi := _) (v := ?vz3101u15) rfl (by kernel_rfl) (by kernel_rfl) (by kernel_rfl) (fun _ _ _ h => h) (Or.inl ⟨by kernel_rfl, ?hyz3101u15⟩) hHeld ?restz3101u15
                  case hyz3101u15 => (intro w hSw; (try dsimp only at hSw); go_simp; first | done | with_reducible rfl)
                  try simp only [Act.put, List.getElem_toArray, List.getElem_cons_zero, List.getElem_cons_succ, List.setIfInBounds_toArray, List.set_cons_zero, List.set_cons_succ]
                  refine wpAnyH_take (i := 19) (oi := _) (v := ?vz3101u16) rfl (by kernel_rfl) (by kernel_rfl) (by kernel_rfl) (fun _ _ _ h => h) (Or.inl ⟨by kernel_rfl, ?hyz3101u16⟩) hHeld ?restz3101u16
                  case hyz3101u16 => (intro w hSw; (try dsimp only at hSw); go_simp; first | done | with_reducible rfl)
                  try simp only [Act.put, List.getElem_toArray, List.getElem_cons_zero, List.getElem_cons_succ, List.setIfInBounds_toArray, List.set_cons_zero, List.set_cons_succ]
                  refine wpAnyH_done (by kernel_rfl) ?_ _
                  clear K hHeld
                  have bacc : Below (w3102.alloc (.cells #[.int .i64 kc, .int .i64 kv] 42)).heap.size (w3102.alloc (.cells #[.int .i64 kc, .int .i64 kv] 42)) wz3101v6 := (thenB (Below.refl _ _).drew bz3101v6)
                  replace VA := VA.kept bacc
                  replace VG := VG.kept bacc
                  replace B := thenB B bacc
                  have Sz3101 := (bacc).size
                  clear bacc
                  simp only [World.size_alloc] at Sz3101
                  clear bz3101v6
                  obtain ⟨s_VA, f_VA, z_VA⟩ := VA.open
                  obtain ⟨s_VG, f_VG, z_VG⟩ := VG.open
                  have Bo := B
                  go_wp2
                  go_ret
                  exact ⟨rfl, HB0.out.trans (Bo.mono HB0.out.size)⟩
              · have d4 : decide (s < (y.t - 32 + 1)) = false := by simp; omega
                have d5 : decide (4294967296 ≤ s - (y.t - 32 + 1)) = true := by simp; omega
                by_cases hk0 : kc = 0
                · have d6 : (kc != 0) = false := by simp [hk0]
                  have d7 : decide ((y.t - 32 + 1) ≤ kv) = true := by simp [hge hk0]
                  clear hge hkc hkv hk0 hb hi hfr hf hw hr
                  replace B := thenB B (belowA wA (.cells #[.int .i64 y.t, .int .i64 y.b] 25))
                  have VA := V.new wA [.int .i64 y.t, .int .i64 y.b] 25
                  obtain ⟨s_VA, f_VA, z_VA⟩ := VA.open
                  have Bo := B
                  go_wp2_with fail
                  refine (CS.out _).mono ?_
                  rintro e w3251 ⟨rfl, b3251⟩
                  clear s_VA f_VA z_VA
                  have S3251 := b3251.size
                  simp only [World.size_alloc] at S3251
                  replace VA := VA.kept b3251
                  replace B := thenB B b3251
                  clear b3251
                  obtain ⟨s_VA, f_VA, z_VA⟩ := VA.open
                  have Bo := B
                  go_wp2_with fail
                  refine (CGi.out _).mono ?_
                  rintro e w3252 ⟨rfl, b3252⟩
                  clear s_VA f_VA z_VA
                  have S3252 := b3252.size
                  replace VA := VA.kept b3252
                  replace B := thenB B b3252
                  clear b3252
                  obtain ⟨s_VA, f_VA, z_VA⟩ := VA.open
                  have Bo := B
                  replace VA := VA.kept (belowA w3252 (.cells #[.int .i64 kc, .int .i64 kv] 42))
                  replace B := thenB B (belowA w3252 (.cells #[.int .i64 kc, .int .i64 kv] 42))
                  have VG := V.new w3252 [.int .i64 kc, .int .i64 kv] 42
                  clear s_VA f_VA z_VA
                  obtain ⟨s_VA, f_VA, z_VA⟩ := VA.open
                  obtain ⟨s_VG, f_VG, z_VG⟩ := VG.open
                  have Bo := B
                  go_upto_region 11 with fail
                  clear s_VA f_VA z_VA s_VG f_VG z_VG
                  have K : ∀ w' : World, Below (w3252.alloc (.cells #[.int .i64 kc, .int .i64 kv] 42)).heap.size (w3252.alloc (.cells #[.int .i64 kc, .int .i64 kv] 42)) w' → (w'.cell? ⟨wA.heap.size, 0, none⟩ = some (.int .i64 y.t) ∧ w'.cell? ⟨wA.heap.size, 1, none⟩ = some (.int .i64 y.b) ∧ w'.cell? ⟨w3252.heap.size, 0, none⟩ = some (.int .i64 kc) ∧ w'.cell? ⟨w3252.heap.size, 1, none⟩ = some (.int .i64 kv)) := fun w' h => ⟨(VA.kept h).2.1 0 (by simp), (VA.kept h).2.1 1 (by simp), (VG.kept h).2.1 0 (by simp), (VG.kept h).2.1 1 (by simp)⟩
                  have K := Hid.mk K
                  refine wp_region_held_drew (S := (fun w' => w'.cell? ⟨wA.heap.size, 0, none⟩ = some (.int .i64 y.t) ∧ w'.cell? ⟨wA.heap.size, 1, none⟩ = some (.int .i64 y.b) ∧ w'.cell? ⟨w3252.heap.size, 0, none⟩ = some (.int .i64 kc) ∧ w'.cell? ⟨w3252.heap.size, 1, none⟩ = some (.int .i64 kv))) (by kernel_rfl) (K.out _ (Below.refl _ _).drew) (fun hHeld => ?_)
                  refine wpAnyH_take (i := 0) (oi := _) (v := ?vz3251u1) rfl (by kernel_rfl) (by kernel_rfl) (by kernel_rfl) (fun _ _ _ h => h) (Or.inl ⟨by kernel_rfl, ?hyz3251u1⟩) hHeld ?restz3251u1
                  case hyz3251u1 => (intro w hSw; (try dsimp only at hSw); go_simp; first | done | with_reducible rfl)
                  try simp only [Act.put, List.getElem_toArray, List.getElem_cons_zero, List.setIfInBounds_toArray, List.set_cons_zero, List.set_cons_succ]
                  refine wpAnyH_take (i := 1) (oi := _) (v := ?vz3251u2) rfl (by kernel_rfl) (by kernel_rfl) (by kernel_rfl) (fun _ _ _ h => h) (Or.inl ⟨by kernel_rfl, ?hyz3251u2⟩) hHeld ?restz3251u2
                  case hyz3251u2 => (intro w hSw; (try dsimp only at hSw); go_simp; first | done | with_reducible rfl)
                  try simp only [Act.put, List.getElem_toArray, List.getElem_cons_zero, List.getElem_cons_succ, List.setIfInBounds_toArray, List.set_cons_zero, List.set_cons_succ]
                  refine wpAnyH_take (i := 2) (oi := _) (v := ?vz3251u3) rfl (by kernel_rfl) (by kernel_rfl) (by kernel_rfl) (fun _ _ _ h => h) (Or.inl ⟨by kernel_rfl, ?hyz3251u3⟩) hHeld ?restz3251u3
                  case hyz3251u3 => (intro w hSw; (try dsimp only at hSw); go_simp; first | done | with_reducible rfl)
                  try simp only [Act.put, List.getElem_toArray, List.getElem_cons_zero, List.getElem_cons_succ, List.setIfInBounds_toArray, List.set_cons_zero, List.set_cons_succ]
                  refine wpAnyH_take (i := 3) (oi := _) (v := ?vz3251u4) rfl (by kernel_rfl) (by kernel_rfl) (by kernel_rfl) (fun _ _ _ h => h) (Or.inl ⟨by kernel_rfl, ?hyz3251u4⟩) hHeld ?restz3251u4
                  case hyz3251u4 => (intro w hSw; (try dsimp only at hSw); go_simp; first | done | with_reducible rfl)
                  try simp only [Act.put, List.getElem_toArray, List.getElem_cons_zero, List.getElem_cons_succ, List.setIfInBounds_toArray, List.set_cons_zero, List.set_cons_succ]
                  refine wpAnyH_take (i := 4) (oi := _) (v := ?vz3251u5) rfl (by kernel_rfl) (by kernel_rfl) (by kernel_rfl) (fun _ _ _ h => h) (Or.inl ⟨by kernel_rfl, ?hyz3251u5⟩) hHeld ?restz3251u5
                  case hyz3251u5 => (intro w hSw; (try dsimp only at hSw); go_simp; first | done | with_reducible rfl)
                  try simp only [Act.put, List.getElem_toArray, List.getElem_cons_zero, List.getElem_cons_succ, List.setIfInBounds_toArray, List.set_cons_zero, List.set_cons_succ]
                  refine wpAnyH_ready (rs := [5]) (by kernel_rfl) (by simp) ?_
                  refine AllReadyH.cons (o := _) rfl (fun K0 hK0 => ?_) AllReadyH.nil
                  go_simp
                  go_at_call 25
                  refine (CGs.out _).mono ?_
                  rintro e wz3251v6 ⟨rfl, bz3251v6⟩
                  refine hK0.out _ _ (K.out _ (thenB (Below.refl _ _).drew bz3251v6)) (fun hHeld => ?_)
                  clear hK0 K0
                  try simp only [Act.put, List.getElem_toArray, List.getElem_cons_zero, List.getElem_cons_succ, List.setIfInBounds_toArray, List.set_cons_zero, List.set_cons_succ]
                  refine wpAnyH_take (i := 6) (oi := _) (v := ?vz3251u7) rfl (by kernel_rfl) (by kernel_rfl) (by kernel_rfl) (fun _ _ _ h => h) (Or.inl ⟨by kernel_rfl, ?hyz3251u7⟩) hHeld ?restz3251u7
                  case hyz3251u7 => (intro w hSw; (try dsimp only at hSw); go_simp; first | done | with_reducible rfl)
                  try simp only [Act.put, List.getElem_toArray, List.getElem_cons_zero, List.getElem_cons_succ, List.setIfInBounds_toArray, List.set_cons_zero, List.set_cons_succ]
                  refine wpAnyH_take (i := 7) (oi := _) (v := ?vz3251u8) rfl (by kernel_rfl) (by kernel_rfl) (by kernel_rfl) (fun _ _ _ h => h) (Or.inl ⟨by kernel_rfl, ?hyz3251u8⟩) hHeld ?restz3251u8
                  case hyz3251u8 => (intro w hSw; (try dsimp only at hSw); go_simp; first | done | with_reducible rfl)
                  try simp only [Act.put, List.getElem_toArray, List.getElem_cons_zero, List.getElem_cons_succ, List.setIfInBounds_toArray, List.set_cons_zero, List.set_cons_succ]
                  refine wpAnyH_take (i := 8) (oi := _) (v := ?vz3251u9) rfl (by kernel_rfl) (by kernel_rfl) (by kernel_rfl) (fun _ _ _ h => h) (Or.inl ⟨by kernel_rfl, ?hyz3251u9⟩) hHeld ?restz3251u9
                  case hyz3251u9 => (intro w hSw; (try dsimp only at hSw); go_simp; first | done | with_reducible rfl)
                  try simp only [Act.put, List.getElem_toArray, List.getElem_cons_zero, List.getElem_cons_succ, List.setIfInBounds_toArray, List.set_cons_zero, List.set_cons_succ]
                  refine wpAnyH_take (i := 9) (oi := _) (v := ?vz3251u10) rfl (by kernel_rfl) (by kernel_rfl) (by kernel_rfl) (fun _ _ _ h => h) (Or.inl ⟨by kernel_rfl, ?hyz3251u10⟩) hHeld ?restz3251u10
                  case hyz3251u10 => (intro w hSw; (try dsimp only at hSw); go_simp; first | done | with_reducible rfl)
                  try simp only [Act.put, List.getElem_toArray, List.getElem_cons_zero, List.getElem_cons_succ, List.setIfInBounds_toArray, List.set_cons_zero, List.set_cons_succ]
                  refine wpAnyH_take (i := 10) (oi := _) (v := ?vz3251u11) rfl (by kernel_rfl) (by kernel_rfl) (by kernel_rfl) (fun _ _ _ h => h) (Or.inl ⟨by kernel_rfl, ?hyz3251u11⟩) hHeld ?restz3251u11
                  case hyz3251u11 => (intro w hSw; (try dsimp only at hSw); go_simp; first | done | with_reducible rfl)
                  try simp only [Act.put, List.getElem_toArray, List.getElem_cons_zero, List.getElem_cons_succ, List.setIfInBounds_toArray, List.set_cons_zero, List.set_cons_succ]
                  refine wpAnyH_take (i := 11) (oi := _) (v := ?vz3251u12) rfl (by kernel_rfl) (by kernel_rfl) (by kernel_rfl) (fun _ _ _ h => h) (Or.inl ⟨by kernel_rfl, ?hyz3251u12⟩) hHeld ?restz3251u12
                  case hyz3251u12 => (intro w hSw; (try dsimp only at hSw); go_simp; first | done | with_reducible rfl)
                  try simp only [Act.put, List.getElem_toArray, List.getElem_cons_zero, List.getElem_cons_succ, List.setIfInBounds_toArray, List.set_cons_zero, List.set_cons_succ]
                  refine wpAnyH_take (i := 12) (oi := _) (v := ?vz3251u13) rfl (by kernel_rfl) (by kernel_rfl) (by kernel_rfl) (fun _ _ _ h => h) (Or.inl ⟨by kernel_rfl, ?hyz3251u13⟩) hHeld ?restz3251u13
                  case hyz3251u13 => (intro w hSw; (try dsimp only at hSw); go_simp; first | done | with_reducible rfl)
                  try simp only [Act.put, List.getElem_toArray, List.getElem_cons_zero, List.getElem_cons_succ, List.setIfInBounds_toArray, List.set_cons_zero, List.set_cons_succ]
                  refine wpAnyH_take (i := 13) (oi := _) (v := ?vz3251u14) rfl (by kernel_rfl) (by kernel_rfl) (by kernel_rfl) (fun _ _ _ h => h) (Or.inl ⟨by kernel_rfl, ?hyz3251u14⟩) hHeld ?restz3251u14
                  case hyz3251u14 => (intro w hSw; (try dsimp only at hSw); go_simp; first | done | with_reducible rfl)
                  try simp only [Act.put, List.getElem_toArray, List.getElem_cons_zero, List.getElem_cons_succ, List.setIfInBounds_toArray, List.set_cons_zero, List.set_cons_succ]
                  refine wpAnyH_take (i := 14) (oi := _) (v := ?vz3251u15) rfl (by kernel_rfl) (by kernel_rfl) (by kernel_rfl) (fun _ _ _ h => h) (Or.inl ⟨by kernel_rfl, ?hyz3251u15⟩) hHeld ?restz3251u15
                  case hyz3251u15 => (intro w hSw; (try dsimp only at hSw); go_simp; first | done | with_reducible rfl)
                  try simp only [Act.put, List.getElem_toArray, List.getElem_cons_zero, List.getElem_cons_succ, List.setIfInBounds_toArray, List.set_cons_zero, List.set_cons_succ]
                  refine wpAnyH_take (i := 15) (oi := _) (v := ?vz3251u16) rfl (by kernel_rfl) (by kernel_rfl) (by kernel_rfl) (fun _ _ _ h => h) (Or.inl ⟨by kernel_rfl, ?hyz3251u16⟩) hHeld ?restz3251u16
                  case hyz3251u16 => (intro w hSw; (try dsimp only at hSw); go_simp; first | done | with_reducible rfl)
                  try simp only [Act.put, List.getElem_toArray, List.getElem_cons_zero, List.getElem_cons_succ, List.setIfInBounds_toArray, List.set_cons_zero, List.set_cons_succ]
                  refine wpAnyH_take (i := 16) (oi := _) (v := ?vz3251u17) rfl (by kernel_rfl) (by kernel_rfl) (by kernel_rfl) (fun _ _ _ h => h) (Or.inl ⟨by kernel_rfl, ?hyz3251u17⟩) hHeld ?restz3251u17
                  case hyz3251u17 => (intro w hSw; (try dsimp only at hSw); go_simp; first | done | with_reducible rfl)
                  try simp only [Act.put, List.getElem_toArray, List.getElem_cons_zero, List.getElem_cons_succ, List.setIfInBounds_toArray, List.set_cons_zero, List.set_cons_succ]
                  refine wpAnyH_take (i := 17) (oi := _) (v := ?vz3251u18) rfl (by kernel_rfl) (by kernel_rfl) (by kernel_rfl) (fun _ _ _ h => h) (Or.inl ⟨by kernel_rfl, ?hyz3251u18⟩) hHeld ?restz3251u18
                  case hyz3251u18 => (intro w hSw; (try dsimp only at hSw); go_simp; first | done | with_reducible rfl)
                  try simp only [Act.put, List.getElem_toArray, List.getElem_cons_zero, List.getElem_cons_succ, List.setIfInBounds_toArray, List.set_cons_zero, List.set_cons_succ]
                  refine wpAnyH_take (i := 18) (oi := _) (v := ?vz3251u19) rfl (by kernel_rfl) (by kernel_rfl) (by kernel_rfl) (fun _ _ _ h => h) (Or.inl ⟨by kernel_rfl, ?hyz3251u19⟩) hHeld ?restz3251u19
                  case hyz3251u19 => (intro w hSw; (try dsimp only at hSw); go_simp; first | done | with_reducible rfl)
                  try simp only [Act.put, List.getElem_toArray, List.getElem_cons_zero, List.getElem_cons_succ, List.setIfInBounds_toArray, List.set_cons_zero, List.set_cons_succ]
                  refine wpAnyH_take (i := 19) (oi := _) (v := ?vz3251u20) rfl (by kernel_rfl) (by kernel_rfl) (by kernel_rfl) (fun _ _ _ h => h) (Or.inl ⟨by kernel_rfl, ?hyz3251u20⟩) hHeld ?restz3251u20
                  case hyz3251u20 => (intro w hSw; (try dsimp only at hSw); go_simp; first | done | with_reducible rfl)
                  try simp only [Act.put, List.getElem_toArray, List.getElem_cons_zero, List.getElem_cons_succ, List.setIfInBounds_toArray, List.set_cons_zero, List.set_cons_succ]
                  refine wpAnyH_done (by kernel_rfl) ?_ _
                  clear K hHeld
                  have bacc : Below (w3252.alloc (.cells #[.int .i64 kc, .int .i64 kv] 42)).heap.size (w3252.alloc (.cells #[.int .i64 kc, .int .i64 kv] 42)) wz3251v6 := (thenB (Below.refl _ _).drew bz3251v6)
                  replace VA := VA.kept bacc
                  replace VG := VG.kept bacc
                  replace B := thenB B bacc
                  have Sz3251 := (bacc).size
                  clear bacc
                  simp only [World.size_alloc] at Sz3251
                  clear bz3251v6
                  obtain ⟨s_VA, f_VA, z_VA⟩ := VA.open
                  obtain ⟨s_VG, f_VG, z_VG⟩ := VG.open
                  have Bo := B
                  go_wp2
                  go_ret
                  exact ⟨rfl, HB0.out.trans (Bo.mono HB0.out.size)⟩
                · have d6 : (kc != 0) = true := by simp [hk0]
                  clear hge hkc hkv hk0 hb hi hfr hf hw hr
                  replace B := thenB B (belowA wA (.cells #[.int .i64 y.t, .int .i64 y.b] 25))
                  have VA := V.new wA [.int .i64 y.t, .int .i64 y.b] 25
                  obtain ⟨s_VA, f_VA, z_VA⟩ := VA.open
                  have Bo := B
                  go_wp2_with fail
                  refine (CS.out _).mono ?_
                  rintro e w3201 ⟨rfl, b3201⟩
                  clear s_VA f_VA z_VA
                  have S3201 := b3201.size
                  simp only [World.size_alloc] at S3201
                  replace VA := VA.kept b3201
                  replace B := thenB B b3201
                  clear b3201
                  obtain ⟨s_VA, f_VA, z_VA⟩ := VA.open
                  have Bo := B
                  go_wp2_with fail
                  refine (CGi.out _).mono ?_
                  rintro e w3202 ⟨rfl, b3202⟩
                  clear s_VA f_VA z_VA
                  have S3202 := b3202.size
                  replace VA := VA.kept b3202
                  replace B := thenB B b3202
                  clear b3202
                  obtain ⟨s_VA, f_VA, z_VA⟩ := VA.open
                  have Bo := B
                  replace VA := VA.kept (belowA w3202 (.cells #[.int .i64 kc, .int .i64 kv] 42))
                  replace B := thenB B (belowA w3202 (.cells #[.int .i64 kc, .int .i64 kv] 42))
                  have VG := V.new w3202 [.int .i64 kc, .int .i64 kv] 42
                  clear s_VA f_VA z_VA
                  obtain ⟨s_VA, f_VA, z_VA⟩ := VA.open
                  obtain ⟨s_VG, f_VG, z_VG⟩ := VG.open
                  have Bo := B
                  go_upto_region 11 with fail
                  clear s_VA f_VA z_VA s_VG f_VG z_VG
                  have K : ∀ w' : World, Below (w3202.alloc (.cells #[.int .i64 kc, .int .i64 kv] 42)).heap.size (w3202.alloc (.cells #[.int .i64 kc, .int .i64 kv] 42)) w' → (w'.cell? ⟨wA.heap.size, 0, none⟩ = some (.int .i64 y.t) ∧ w'.cell? ⟨wA.heap.size, 1, none⟩ = some (.int .i64 y.b) ∧ w'.cell? ⟨w3202.heap.size, 0, none⟩ = some (.int .i64 kc) ∧ w'.cell? ⟨w3202.heap.size, 1, none⟩ = some (.int .i64 kv)) := fun w' h => ⟨(VA.kept h).2.1 0 (by simp), (VA.kept h).2.1 1 (by simp), (VG.kept h).2.1 0 (by simp), (VG.kept h).2.1 1 (by simp)⟩
                  have K := Hid.mk K
                  refine wp_region_held_drew (S := (fun w' => w'.cell? ⟨wA.heap.size, 0, none⟩ = some (.int .i64 y.t) ∧ w'.cell? ⟨wA.heap.size, 1, none⟩ = some (.int .i64 y.b) ∧ w'.cell? ⟨w3202.heap.size, 0, none⟩ = some (.int .i64 kc) ∧ w'.cell? ⟨w3202.heap.size, 1, none⟩ = some (.int .i64 kv))) (by kernel_rfl) (K.out _ (Below.refl _ _).drew) (fun hHeld => ?_)
                  refine wpAnyH_take (i := 0) (oi := _) (v := ?vz3201u1) rfl (by kernel_rfl) (by kernel_rfl) (by kernel_rfl) (fun _ _ _ h => h) (Or.inl ⟨by kernel_rfl, ?hyz3201u1⟩) hHeld ?restz3201u1
                  case hyz3201u1 => (intro w hSw; (try dsimp only at hSw); go_simp; first | done | with_reducible rfl)
                  try simp only [Act.put, List.getElem_toArray, List.getElem_cons_zero, List.setIfInBounds_toArray, List.set_cons_zero, List.set_cons_succ]
                  refine wpAnyH_take (i := 1) (oi := _) (v := ?vz3201u2) rfl (by kernel_rfl) (by kernel_rfl) (by kernel_rfl) (fun _ _ _ h => h) (Or.inl ⟨by kernel_rfl, ?hyz3201u2⟩) hHeld ?restz3201u2
                  case hyz3201u2 => (intro w hSw; (try dsimp only at hSw); go_simp; first | done | with_reducible rfl)
                  try simp only [Act.put, List.getElem_toArray, List.getElem_cons_zero, List.getElem_cons_succ, List.setIfInBounds_toArray, List.set_cons_zero, List.set_cons_succ]
                  refine wpAnyH_take (i := 2) (oi := _) (v := ?vz3201u3) rfl (by kernel_rfl) (by kernel_rfl) (by kernel_rfl) (fun _ _ _ h => h) (Or.inl ⟨by kernel_rfl, ?hyz3201u3⟩) hHeld ?restz3201u3
                  case hyz3201u3 => (intro w hSw; (try dsimp only at hSw); go_simp; first | done | with_reducible rfl)
                  try simp only [Act.put, List.getElem_toArray, List.getElem_cons_zero, List.getElem_cons_succ, List.setIfInBounds_toArray, List.set_cons_zero, List.set_cons_succ]
                  refine wpAnyH_take (i := 3) (oi := _) (v := ?vz3201u4) rfl (by kernel_rfl) (by kernel_rfl) (by kernel_rfl) (fun _ _ _ h => h) (Or.inl ⟨by kernel_rfl, ?hyz3201u4⟩) hHeld ?restz3201u4
                  case hyz3201u4 => (intro w hSw; (try dsimp only at hSw); go_simp; first | done | with_reducible rfl)
                  try simp only [Act.put, List.getElem_toArray, List.getElem_cons_zero, List.getElem_cons_succ, List.setIfInBounds_toArray, List.set_cons_zero, List.set_cons_succ]
                  refine wpAnyH_take (i := 4) (oi := _) (v := ?vz3201u5) rfl (by kernel_rfl) (by kernel_rfl) (by kernel_rfl) (fun _ _ _ h => h) (Or.inl ⟨by kernel_rfl, ?hyz3201u5⟩) hHeld ?restz3201u5
                  case hyz3201u5 => (intro w hSw; (try dsimp only at hSw); go_simp; first | done | with_reducible rfl)
                  try simp only [Act.put, List.getElem_toArray, List.getElem_cons_zero, List.getElem_cons_succ, List.setIfInBounds_toArray, List.set_cons_zero, List.set_cons_succ]
                  refine wpAnyH_ready (rs := [5]) (by kernel_rfl) (by simp) ?_
                  refine AllReadyH.cons (o := _) rfl (fun K0 hK0 => ?_) AllReadyH.nil
                  go_simp
                  go_at_call 25
                  refine (CGs.out _).mono ?_
                  rintro e wz3201v6 ⟨rfl, bz3201v6⟩
                  refine hK0.out _ _ (K.out _ (thenB (Below.refl _ _).drew bz3201v6)) (fun hHeld => ?_)
                  clear hK0 K0
                  try simp only [Act.put, List.getElem_toArray, List.getElem_cons_zero, List.getElem_cons_succ, List.setIfInBounds_toArray, List.set_cons_zero, List.set_cons_succ]
                  refine wpAnyH_take (i := 6) (oi := _) (v := ?vz3201u7) rfl (by kernel_rfl) (by kernel_rfl) (by kernel_rfl) (fun _ _ _ h => h) (Or.inl ⟨by kernel_rfl, ?hyz3201u7⟩) hHeld ?restz3201u7
                  case hyz3201u7 => (intro w hSw; (try dsimp only at hSw); go_simp; first | done | with_reducible rfl)
                  try simp only [Act.put, List.getElem_toArray, List.getElem_cons_zero, List.getElem_cons_succ, List.setIfInBounds_toArray, List.set_cons_zero, List.set_cons_succ]
                  refine wpAnyH_take (i := 7) (oi := _) (v := ?vz3201u8) rfl (by kernel_rfl) (by kernel_rfl) (by kernel_rfl) (fun _ _ _ h => h) (Or.inl ⟨by kernel_rfl, ?hyz3201u8⟩) hHeld ?restz3201u8
                  case hyz3201u8 => (intro w hSw; (try dsimp only at hSw); go_simp; first | done | with_reducible rfl)
                  try simp only [Act.put, List.getElem_toArray, List.getElem_cons_zero, List.getElem_cons_succ, List.setIfInBounds_toArray, List.set_cons_zero, List.set_cons_succ]
                  refine wpAnyH_take (i := 8) (oi := _) (v := ?vz3201u9) rfl (by kernel_rfl) (by kernel_rfl) (by kernel_rfl) (fun _ _ _ h => h) (Or.inl ⟨by kernel_rfl, ?hyz3201u9⟩) hHeld ?restz3201u9
                  case hyz3201u9 => (intro w hSw; (try dsimp only at hSw); go_simp; first | done | with_reducible rfl)
                  try simp only [Act.put, List.getElem_toArray, List.getElem_cons_zero, List.getElem_cons_succ, List.setIfInBounds_toArray, List.set_cons_zero, List.set_cons_succ]
                  refine wpAnyH_take (i := 9) (oi := _) (v := ?vz3201u10) rfl (by kernel_rfl) (by kernel_rfl) (by kernel_rfl) (fun _ _ _ h => h) (Or.inl ⟨by kernel_rfl, ?hyz3201u10⟩) hHeld ?restz3201u10
                  case hyz3201u10 => (intro w hSw; (try dsimp only at hSw); go_simp; first | done | with_reducible rfl)
                  try simp only [Act.put, List.getElem_toArray, List.getElem_cons_zero, List.getElem_cons_succ, List.setIfInBounds_toArray, List.set_cons_zero, List.set_cons_succ]
                  refine wpAnyH_take (i := 10) (oi := _) (v := ?vz3201u11) rfl (by kernel_rfl) (by kernel_rfl) (by kernel_rfl) (fun _ _ _ h => h) (Or.inl ⟨by kernel_rfl, ?hyz3201u11⟩) hHeld ?restz3201u11
                  case hyz3201u11 => (intro w hSw; (try dsimp only at hSw); go_simp; first | done | with_reducible rfl)
                  try simp only [Act.put, List.getElem_toArray, List.getElem_cons_zero, List.getElem_cons_succ, List.setIfInBounds_toArray, List.set_cons_zero, List.set_cons_succ]
                  refine wpAnyH_take (i := 11) (oi := _) (v := ?vz3201u12) rfl (by kernel_rfl) (by kernel_rfl) (by kernel_rfl) (fun _ _ _ h => h) (Or.inl ⟨by kernel_rfl, ?hyz3201u12⟩) hHeld ?restz3201u12
                  case hyz3201u12 => (intro w hSw; (try dsimp only at hSw); go_simp; first | done | with_reducible rfl)
                  try simp only [Act.put, List.getElem_toArray, List.getElem_cons_zero, List.getElem_cons_succ, List.setIfInBounds_toArray, List.set_cons_zero, List.set_cons_succ]
                  refine wpAnyH_take (i := 12) (oi := _) (v := ?vz3201u13) rfl (by kernel_rfl) (by kernel_rfl) (by kernel_rfl) (fun _ _ _ h => h) (Or.inl ⟨by kernel_rfl, ?hyz3201u13⟩) hHeld ?restz3201u13
                  case hyz3201u13 => (intro w hSw; (try dsimp only at hSw); go_simp; first | done | with_reducible rfl)
                  try simp only [Act.put, List.getElem_toArray, List.getElem_cons_zero, List.getElem_cons_succ, List.setIfInBounds_toArray, List.set_cons_zero, List.set_cons_succ]
                  refine wpAnyH_take (i := 13) (oi := _) (v := undef) rfl (by kernel_rfl) (by kernel_rfl) (by kernel_rfl) (fun _ _ _ h => h) (Or.inr ⟨by rfl, rfl⟩) hHeld ?_
                  try simp only [Act.put, List.getElem_toArray, List.getElem_cons_zero, List.getElem_cons_succ, List.setIfInBounds_toArray, List.set_cons_zero, List.set_cons_succ]
                  refine wpAnyH_take (i := 14) (oi := _) (v := undef) rfl (by kernel_rfl) (by kernel_rfl) (by kernel_rfl) (fun _ _ _ h => h) (Or.inr ⟨by rfl, rfl⟩) hHeld ?_
                  try simp only [Act.put, List.getElem_toArray, List.getElem_cons_zero, List.getElem_cons_succ, List.setIfInBounds_toArray, List.set_cons_zero, List.set_cons_succ]
                  refine wpAnyH_take (i := 15) (oi := _) (v := undef) rfl (by kernel_rfl) (by kernel_rfl) (by kernel_rfl) (fun _ _ _ h => h) (Or.inr ⟨by rfl, rfl⟩) hHeld ?_
                  try simp only [Act.put, List.getElem_toArray, List.getElem_cons_zero, List.getElem_cons_succ, List.setIfInBounds_toArray, List.set_cons_zero, List.set_cons_succ]
                  refine wpAnyH_take (i := 16) (oi := _) (v := undef) rfl (by kernel_rfl) (by kernel_rfl) (by kernel_rfl) (fun _ _ _ h => h) (Or.inr ⟨by rfl, rfl⟩) hHeld ?_
                  try simp only [Act.put, List.getElem_toArray, List.getElem_cons_zero, List.getElem_cons_succ, List.setIfInBounds_toArray, List.set_cons_zero, List.set_cons_succ]
                  refine wpAnyH_take (i := 17) (oi := _) (v := ?vz3201u14) rfl (by kernel_rfl) (by kernel_rfl) (by kernel_rfl) (fun _ _ _ h => h) (Or.inl ⟨by kernel_rfl, ?hyz3201u14⟩) hHeld ?restz3201u14
                  case hyz3201u14 => (intro w hSw; (try dsimp only at hSw); go_simp; first | done | with_reducible rfl)
                  try simp only [Act.put, List.getElem_toArray, List.getElem_cons_zero, List.getElem_cons_succ, List.setIfInBounds_toArray, List.set_cons_zero, List.set_cons_succ]
                  refine wpAnyH_take (i := 18) (oi := _) (v := ?vz3201u15) rfl (by kernel_rfl) (by kernel_rfl) (by kernel_rfl) (fun _ _ _ h => h) (Or.inl ⟨by kernel_rfl, ?hyz3201u15⟩) hHeld ?restz3201u15
                  case hyz3201u15 => (intro w hSw; (try dsimp only at hSw); go_simp; first | done | with_reducible rfl)
                  try simp only [Act.put, List.getElem_toArray, List.getElem_cons_zero, List.getElem_cons_succ, List.setIfInBounds_toArray, List.set_cons_zero, List.set_cons_succ]
                  refine wpAnyH_take (i := 19) (oi := _) (v := ?vz3201u16) rfl (by kernel_rfl) (by kernel_rfl) (by kernel_rfl) (fun _ _ _ h => h) (Or.inl ⟨by kernel_rfl, ?hyz3201u16⟩) hHeld ?restz3201u16
                  case hyz3201u16 => (intro w hSw; (try dsimp only at hSw); go_simp; first | done | with_reducible rfl)
                  try simp only [Act.put, List.getElem_toArray, List.getElem_cons_zero, List.getElem_cons_succ, List.setIfInBounds_toArray, List.set_cons_zero, List.set_cons_succ]
                  refine wpAnyH_done (by kernel_rfl) ?_ _
                  clear K hHeld
                  have bacc : Below (w3202.alloc (.cells #[.int .i64 kc, .int .i64 kv] 42)).heap.size (w3202.alloc (.cells #[.int .i64 kc, .int .i64 kv] 42)) wz3201v6 := (thenB (Below.refl _ _).drew bz3201v6)
                  replace VA := VA.kept bacc
                  replace VG := VG.kept bacc
                  replace B := thenB B bacc
                  have Sz3201 := (bacc).size
                  clear bacc
                  simp only [World.size_alloc] at Sz3201
                  clear bz3201v6
                  obtain ⟨s_VA, f_VA, z_VA⟩ := VA.open
                  obtain ⟨s_VG, f_VG, z_VG⟩ := VG.open
                  have Bo := B
                  go_wp2
                  go_ret
                  exact ⟨rfl, HB0.out.trans (Bo.mono HB0.out.size)⟩
          · have d4 : decide (s < (y.t - 32 + 1)) = false := by simp; omega
            have d5 : decide (4294967296 ≤ s - (y.t - 32 + 1)) = false := by simp; omega
            have hsame : gsV y r = s := by rw [← hr]; exact gs_same (by rw [hf]; omega) (by rw [hf]; omega)
            have hkc : gsC y r = 0 := by
              rcases gs_ways y r with ⟨h, _⟩ | ⟨_, h, _⟩ | ⟨_, _, h, _⟩ | ⟨_, _, _, h, _⟩
              · exact absurd hw h
              · exact absurd (by omega) h
              · rw [hsame] at h; exact absurd (by omega) h
              · exact h
            have hkv : gsA y r = s := by simp [gsA, hkc, hsame]
            have hlow : tlR y r = tsR y s := by rw [(tk_whole (s := s) hw).2]; simp [tlR, hkc, hsame]
            simp only [hkc, hkv] at CGi
            simp only [hlow] at CL
            generalize tsR y s = P at *
            obtain ⟨pc, pn, pu⟩ := P
            simp only at CTi CL
            have hss : (s == s) = true := by simp
            clear CGs CTs hb hsame hkc hkv hlow hi hfr hf hw hr
            replace B := thenB B (belowA wA (.cells #[.int .i64 y.t, .int .i64 y.b] 25))
            have VA := V.new wA [.int .i64 y.t, .int .i64 y.b] 25
            obtain ⟨s_VA, f_VA, z_VA⟩ := VA.open
            have Bo := B
            go_wp2_with fail
            refine (CS.out _).mono ?_
            rintro e w3401 ⟨rfl, b3401⟩
            clear s_VA f_VA z_VA
            have S3401 := b3401.size
            simp only [World.size_alloc] at S3401
            replace VA := VA.kept b3401
            replace B := thenB B b3401
            clear b3401
            obtain ⟨s_VA, f_VA, z_VA⟩ := VA.open
            have Bo := B
            go_wp2_with fail
            refine (CGi.out _).mono ?_
            rintro e w3402 ⟨rfl, b3402⟩
            clear s_VA f_VA z_VA
            have S3402 := b3402.size
            replace VA := VA.kept b3402
            replace B := thenB B b3402
            clear b3402
            obtain ⟨s_VA, f_VA, z_VA⟩ := VA.open
            have Bo := B
            replace VA := VA.kept (belowA w3402 (.cells #[.int .i64 0, .int .i64 s] 42))
            replace B := thenB B (belowA w3402 (.cells #[.int .i64 0, .int .i64 s] 42))
            have VG := V.new w3402 [.int .i64 0, .int .i64 s] 42
            clear s_VA f_VA z_VA
            obtain ⟨s_VA, f_VA, z_VA⟩ := VA.open
            obtain ⟨s_VG, f_VG, z_VG⟩ := VG.open
            have Bo := B
            go_wp2_with fail
            refine (CTi.out _).mono ?_
            rintro e w3403 ⟨rfl, b3403⟩
            clear s_VA f_VA z_VA s_VG f_VG z_VG
            have S3403 := b3403.size
            simp only [World.size_alloc] at S3403
            replace VA := VA.kept b3403
            replace VG := VG.kept b3403
            replace B := thenB B b3403
            clear b3403
            obtain ⟨s_VA, f_VA, z_VA⟩ := VA.open
            obtain ⟨s_VG, f_VG, z_VG⟩ := VG.open
            have Bo := B
            replace VA := VA.kept (belowA w3403 (.cells #[.int .i64 pc, .int .i64 pn, .int .i64 pu.t, .int .i64 pu.b] 35))
            replace VG := VG.kept (belowA w3403 (.cells #[.int .i64 pc, .int .i64 pn, .int .i64 pu.t, .int .i64 pu.b] 35))
            replace B := thenB B (belowA w3403 (.cells #[.int .i64 pc, .int .i64 pn, .int .i64 pu.t, .int .i64 pu.b] 35))
            have VP := V.new w3403 [.int .i64 pc, .int .i64 pn, .int .i64 pu.t, .int .i64 pu.b] 35
            clear s_VA f_VA z_VA s_VG f_VG z_VG
            obtain ⟨s_VA, f_VA, z_VA⟩ := VA.open
            obtain ⟨s_VG, f_VG, z_VG⟩ := VG.open
            obtain ⟨s_VP, f_VP, z_VP⟩ := VP.open
            have Bo := B
            go_wp2_with fail
            refine (CL.out _).mono ?_
            rintro e w3404 ⟨rfl, b3404⟩
            clear s_VA f_VA z_VA s_VG f_VG z_VG s_VP f_VP z_VP
            have S3404 := b3404.size
            simp only [World.size_alloc] at S3404
            replace VA := VA.kept b3404
            replace VG := VG.kept b3404
            replace VP := VP.kept b3404
            replace B := thenB B b3404
            clear b3404
            obtain ⟨s_VA, f_VA, z_VA⟩ := VA.open
            obtain ⟨s_VG, f_VG, z_VG⟩ := VG.open
            obtain ⟨s_VP, f_VP, z_VP⟩ := VP.open
            have Bo := B
            replace VA := VA.kept (belowA w3404 (.cells #[.int .i64 pc, .int .i64 pn, .int .i64 pu.t, .int .i64 pu.b] 35))
            replace VG := VG.kept (belowA w3404 (.cells #[.int .i64 pc, .int .i64 pn, .int .i64 pu.t, .int .i64 pu.b] 35))
            replace VP := VP.kept (belowA w3404 (.cells #[.int .i64 pc, .int .i64 pn, .int .i64 pu.t, .int .i64 pu.b] 35))
            replace B := thenB B (belowA w3404 (.cells #[.int .i64 pc, .int .i64 pn, .int .i64 pu.t, .int .i64 pu.b] 35))
            have VQ := V.new w3404 [.int .i64 pc, .int .i64 pn, .int .i64 pu.t, .int .i64 pu.b] 35
            clear s_VA f_VA z_VA s_VG f_VG z_VG s_VP f_VP z_VP
            obtain ⟨s_VA, f_VA, z_VA⟩ := VA.open
            obtain ⟨s_VG, f_VG, z_VG⟩ := VG.open
            obtain ⟨s_VP, f_VP, z_VP⟩ := VP.open
            obtain ⟨s_VQ, f_VQ, z_VQ⟩ := VQ.open
            have Bo := B
            go_wp2
            go_ret
            exact ⟨rfl, HB0.out.trans (Bo.mono HB0.out.size)⟩
  · have hne : (wF y != 0) = true := by simp [hw]
    clear hw
    replace B := thenB B (belowA wA (.cells #[.int .i64 y.t, .int .i64 y.b] 25))
    have VA := V.new wA [.int .i64 y.t, .int .i64 y.b] 25
    obtain ⟨s_VA, f_VA, z_VA⟩ := VA.open
    have Bo := B
    go_wp2_with fail
    refine (CS.out _).mono ?_
    rintro e w51 ⟨rfl, b51⟩
    clear s_VA f_VA z_VA
    have S51 := b51.size
    simp only [World.size_alloc] at S51
    replace VA := VA.kept b51
    replace B := thenB B b51
    clear b51
    obtain ⟨s_VA, f_VA, z_VA⟩ := VA.open
    have Bo := B
    generalize tsR y s = P at *
    obtain ⟨kc, kn, u⟩ := P
    simp only at CTi CTs
    have hkk : (kc == kc) = true := by simp
    go_upto_region 5 with fail
    clear s_VA f_VA z_VA
    have K : ∀ w' : World, Below w51.heap.size w51 w' → (w'.cell? ⟨wA.heap.size, 0, none⟩ = some (.int .i64 y.t) ∧ w'.cell? ⟨wA.heap.size, 1, none⟩ = some (.int .i64 y.b)) := fun w' h => ⟨(VA.kept h).2.1 0 (by simp), (VA.kept h).2.1 1 (by simp)⟩
    have K := Hid.mk K
    refine wp_region_held_drew (S := (fun w' => w'.cell? ⟨wA.heap.size, 0, none⟩ = some (.int .i64 y.t) ∧ w'.cell? ⟨wA.heap.size, 1, none⟩ = some (.int .i64 y.b))) (by kernel_rfl) (K.out _ (Below.refl _ _).drew) (fun hHeld => ?_)
    refine wpAnyH_take (i := 0) (oi := _) (v := ?vz51u1) rfl (by kernel_rfl) (by kernel_rfl) (by kernel_rfl) (fun _ _ _ h => h) (Or.inl ⟨by kernel_rfl, ?hyz51u1⟩) hHeld ?restz51u1
    case hyz51u1 => (intro w hSw; (try dsimp only at hSw); go_simp; first | done | with_reducible rfl)
    try simp only [Act.put, List.getElem_toArray, List.getElem_cons_zero, List.setIfInBounds_toArray, List.set_cons_zero, List.set_cons_succ]
    refine wpAnyH_take (i := 1) (oi := _) (v := ?vz51u2) rfl (by kernel_rfl) (by kernel_rfl) (by kernel_rfl) (fun _ _ _ h => h) (Or.inl ⟨by kernel_rfl, ?hyz51u2⟩) hHeld ?restz51u2
    case hyz51u2 => (intro w hSw; (try dsimp only at hSw); go_simp; first | done | with_reducible rfl)
    try simp only [Act.put, List.getElem_toArray, List.getElem_cons_zero, List.getElem_cons_succ, List.setIfInBounds_toArray, List.set_cons_zero, List.set_cons_succ]
    refine wpAnyH_take (i := 4) (oi := _) (v := ?vz51u3) rfl (by kernel_rfl) (by kernel_rfl) (by kernel_rfl) (fun _ _ _ h => h) (Or.inl ⟨by kernel_rfl, ?hyz51u3⟩) hHeld ?restz51u3
    case hyz51u3 => (intro w hSw; (try dsimp only at hSw); go_simp; first | done | with_reducible rfl)
    try simp only [Act.put, List.getElem_toArray, List.getElem_cons_zero, List.getElem_cons_succ, List.setIfInBounds_toArray, List.set_cons_zero, List.set_cons_succ]
    refine wpAnyH_take (i := 5) (oi := _) (v := ?vz51u4) rfl (by kernel_rfl) (by kernel_rfl) (by kernel_rfl) (fun _ _ _ h => h) (Or.inl ⟨by kernel_rfl, ?hyz51u4⟩) hHeld ?restz51u4
    case hyz51u4 => (intro w hSw; (try dsimp only at hSw); go_simp; first | done | with_reducible rfl)
    try simp only [Act.put, List.getElem_toArray, List.getElem_cons_zero, List.getElem_cons_succ, List.setIfInBounds_toArray, List.set_cons_zero, List.set_cons_succ]
    refine wpAnyH_ready (rs := [2]) (by kernel_rfl) (by simp) ?_
    refine AllReadyH.cons (o := _) rfl (fun K0 hK0 => ?_) AllReadyH.nil
    go_simp
    go_at_call 18
    refine (CTi.out _).mono ?_
    rintro e wz51v5 ⟨rfl, bz51v5⟩
    refine hK0.out _ _ (K.out _ (thenB (Below.refl _ _).drew bz51v5)) (fun hHeld => ?_)
    clear hK0 K0
    try simp only [Act.put, List.getElem_toArray, List.getElem_cons_zero, List.getElem_cons_succ, List.setIfInBounds_toArray, List.set_cons_zero, List.set_cons_succ]
    refine wpAnyH_take (i := 3) (oi := _) (v := ?vz51u6) rfl (by kernel_rfl) (by kernel_rfl) (by kernel_rfl) (fun _ _ _ h => h) (Or.inl ⟨by kernel_rfl, ?hyz51u6⟩) hHeld ?restz51u6
    case hyz51u6 => (intro w hSw; (try dsimp only at hSw); go_simp; first | done | with_reducible rfl)
    try simp only [Act.put, List.getElem_toArray, List.getElem_cons_zero, List.getElem_cons_succ, List.setIfInBounds_toArray, List.set_cons_zero, List.set_cons_succ]
    refine wpAnyH_ready (rs := [6]) (by kernel_rfl) (by simp) ?_
    refine AllReadyH.cons (o := _) rfl (fun K0 hK0 => ?_) AllReadyH.nil
    go_simp
    go_at_call 23
    refine (CTs.out _).mono ?_
    rintro e wz51v7 ⟨rfl, bz51v7⟩
    refine hK0.out _ _ (K.out _ (thenB (thenB (Below.refl _ _).drew bz51v5) bz51v7)) (fun hHeld => ?_)
    clear hK0 K0
    try simp only [Act.put, List.getElem_toArray, List.getElem_cons_zero, List.getElem_cons_succ, List.setIfInBounds_toArray, List.set_cons_zero, List.set_cons_succ]
    refine wpAnyH_take (i := 7) (oi := _) (v := ?vz51u8) rfl (by kernel_rfl) (by kernel_rfl) (by kernel_rfl) (fun _ _ _ h => h) (Or.inl ⟨by kernel_rfl, ?hyz51u8⟩) hHeld ?restz51u8
    case hyz51u8 => (intro w hSw; (try dsimp only at hSw); go_simp; first | done | with_reducible rfl)
    try simp only [Act.put, List.getElem_toArray, List.getElem_cons_zero, List.getElem_cons_succ, List.setIfInBounds_toArray, List.set_cons_zero, List.set_cons_succ]
    refine wpAnyH_take (i := 8) (oi := _) (v := ?vz51u9) rfl (by kernel_rfl) (by kernel_rfl) (by kernel_rfl) (fun _ _ _ h => h) (Or.inl ⟨by kernel_rfl, ?hyz51u9⟩) hHeld ?restz51u9
    case hyz51u9 => (intro w hSw; (try dsimp only at hSw); go_simp; first | done | with_reducible rfl)
    try simp only [Act.put, List.getElem_toArray, List.getElem_cons_zero, List.getElem_cons_succ, List.setIfInBounds_toArray, List.set_cons_zero, List.set_cons_succ]
    refine wpAnyH_take (i := 9) (oi := _) (v := ?vz51u10) rfl (by kernel_rfl) (by kernel_rfl) (by kernel_rfl) (fun _ _ _ h => h) (Or.inl ⟨by kernel_rfl, ?hyz51u10⟩) hHeld ?restz51u10
    case hyz51u10 => (intro w hSw; (try dsimp only at hSw); go_simp; first | done | with_reducible rfl)
    try simp only [Act.put, List.getElem_toArray, List.getElem_cons_zero, List.getElem_cons_succ, List.setIfInBounds_toArray, List.set_cons_zero, List.set_cons_succ]
    refine wpAnyH_done (by kernel_rfl) ?_ _
    clear K hHeld
    have bacc : Below w51.heap.size w51 wz51v7 := (thenB (thenB (Below.refl _ _).drew bz51v5) bz51v7)
    replace VA := VA.kept bacc
    replace B := thenB B bacc
    have Sz51 := (bacc).size
    clear bacc
    clear bz51v5 bz51v7
    obtain ⟨s_VA, f_VA, z_VA⟩ := VA.open
    have Bo := B
    go_wp2
    go_ret
    exact ⟨rfl, HB0.out.trans (Bo.mono HB0.out.size)⟩

end Go.Proofs.Ytkpdbdcfimdnjaa
