/- The strongest of a list: program and model. -/
import Derived.Test.YthaaompkcomfcaaPsG
namespace Go.Proofs.Ythaaompkcomfcaa
open Go.RowKit

theorem bst_step (xs : List Su) (k : Nat) {z m : Su} (hz : xs.getD k zSuite = z) (hm : xs.getD (bst xs k) zSuite = m) : xs.getD (bst xs (k + 1)) zSuite = if rkI m < rkI z then z else m := by
  unfold bst
  rw [hz, hm]
  split
  · exact hz
  · exact hm

theorem cmpI_gt {a b : Int} (h : b < a) : cmpI a b = 1 := by unfold cmpI; rw [if_neg (by omega), if_pos h]

theorem cmpI_le {a b : Int} (h : ¬ b < a) : ¬ 0 < cmpI a b := by
  unfold cmpI
  rw [if_neg h]
  split <;> omega

theorem bst_in (xs : List Su) (k : Nat) (hk : k ≤ xs.length) (h : 1 ≤ xs.length) : bst xs k < xs.length := by
  have := bst_lt xs k
  omega

set_option maxRecDepth 20000 in
set_option maxHeartbeats 4000000 in
theorem maxSu_ok (a : Option Addr) (n ca : Nat) (xs : List Su) (w : World) (ha : RdSuite w a xs) (hn : xs.length = n) (hx : n ≤ maxLen) (h1 : 1 ≤ n) (hok : ∀ x ∈ xs, okSu x = true) :
    Calls Try.prog 50 #[.slice a n ca, .func (.func 51) #[] #[]] w fun e w' => e = .returned (.agg #[.int .i64 (xs.getD (bst xs n) zSuite).c, .int .i64 (xs.getD (bst xs n) zSuite).b, .int .i64 (xs.getD (bst xs n) zSuite).m, .int .i64 (xs.getD (bst xs n) zSuite).g]) ∧ Below w.heap.size w w' := by
  unfold maxLen at hx
  have h0 : ¬ (n : Int) < 1 := by omega
  have d0 : decide ((n : Int) < 1) = false := decide_eq_false h0
  have h01 : (0 : Int) < (n : Int) := by omega
  have HW := Hid.mk ha
  rcases ha with ha | ⟨b1, o1, rfl, hca⟩
  · rw [ha] at hn; simp at hn; omega
  have hca := Hid.mk hca
  obtain ⟨x0, hx0⟩ : ∃ x, xs.getD 0 zSuite = x := ⟨_, rfl⟩
  obtain ⟨p0, p1, p2, p3⟩ := RdSuite.cells hca.out 0 (by omega) x0 hx0
  simp only [Nat.zero_mul, Nat.add_zero] at p0 p1 p2 p3
  replace hx0 := Hid.mk hx0
  go_enter Try.func50, Try.ntmps50
  have B := Below.refl w.heap.size w
  replace B := thenB B (belowA w (.cells #[.int .i64 0, .int .i64 0, .int .i64 0, .int .i64 0] 28))
  have VR := V.new w [.int .i64 0, .int .i64 0, .int .i64 0, .int .i64 0] 28
  replace VR := VR.kept (belowA (w.alloc (.cells #[.int .i64 0, .int .i64 0, .int .i64 0, .int .i64 0] 28)) (.cells #[.int .i64 x0.c, .int .i64 x0.b, .int .i64 x0.m, .int .i64 x0.g] 28))
  replace B := thenB B (belowA (w.alloc (.cells #[.int .i64 0, .int .i64 0, .int .i64 0, .int .i64 0] 28)) (.cells #[.int .i64 x0.c, .int .i64 x0.b, .int .i64 x0.m, .int .i64 x0.g] 28))
  have VM : V ((w.alloc (.cells #[.int .i64 0, .int .i64 0, .int .i64 0, .int .i64 0] 28)).alloc (.cells #[.int .i64 x0.c, .int .i64 x0.b, .int .i64 x0.m, .int .i64 x0.g] 28)) (w.heap.size + 1) [.int .i64 x0.c, .int .i64 x0.b, .int .i64 x0.m, .int .i64 x0.g] := V.newAt _ _ _ _ (by simp)
  have hs0 := Hid.mk (Nat.lt_of_lt_of_le (World.block_lt_of_cell? (a := ⟨b1, o1, none⟩) w p0) (Nat.le_refl _))
  have hsb := hs0.out
  simp only at hsb
  go_wp2
  go_loopw [6] (fun i wr => ∃ k : Nat, 1 ≤ k ∧ k ≤ n ∧ i = .int .i64 k ∧ V wr w.heap.size [.int .i64 0, .int .i64 0, .int .i64 0, .int .i64 0] ∧ V wr (w.heap.size + 1) [.int .i64 (xs.getD (bst xs k) zSuite).c, .int .i64 (xs.getD (bst xs k) zSuite).b, .int .i64 (xs.getD (bst xs k) zSuite).m, .int .i64 (xs.getD (bst xs k) zSuite).g] ∧ Below w.heap.size w wr) (fun i _ => n - (intOf i).toNat)
  case atStart => exact ⟨1, Nat.le_refl _, h1, rfl, VR, by rw [bst_one, hx0.out]; exact VM, B⟩
  case round =>
    clear VR VM B p0 p1 p2 p3
    obtain ⟨k, hk1, hk, rfl, VR, VM, B⟩ := hrel
    by_cases hlt : k < n
    · obtain ⟨z, hz⟩ : ∃ z, xs.getD k zSuite = z := ⟨_, rfl⟩
      obtain ⟨m, hm⟩ : ∃ m, xs.getD (bst xs k) zSuite = m := ⟨_, rfl⟩
      have hzo : okSu z = true := by rw [← hz]; exact hok _ (getDSuite_mem (by omega))
      have hmo : okSu m = true := by rw [← hm]; exact hok _ (getDSuite_mem (bst_in xs k (by omega) (by omega)))
      have hst := bst_step xs k hz hm
      have hki : (k : Int) < (n : Int) := by omega
      have ha := HW.out.kept B
      obtain ⟨p0, p1, p2, p3⟩ := ha.at k (by omega) z hz
      have HZ := Hid.mk hz
      rw [hm] at VM
      have CC := Hid.mk (fun w => compareRanks_ok z m hzo hmo w)
      clear ha hz hm hlt
      by_cases hr : rkI m < rkI z
      · rw [if_pos hr] at hst
        rw [rk_same hmo hzo] at hr
        simp only [cmpI_gt hr] at CC
        clear hr hzo hmo
        have HS := Hid.mk hst
        clear hst
        obtain ⟨s_VR, f_VR, z_VR⟩ := VR.open
        obtain ⟨s_VM, f_VM, z_VM⟩ := VM.open
        clear s_VR f_VR z_VR s_VM f_VM z_VM
        have K : ∀ w' : World, Below wr.heap.size wr w' → (w'.cell? ⟨w.heap.size + 1, 0, none⟩ = some (.int .i64 m.c) ∧ w'.cell? ⟨w.heap.size + 1, 1, none⟩ = some (.int .i64 m.b) ∧ w'.cell? ⟨w.heap.size + 1, 2, none⟩ = some (.int .i64 m.m) ∧ w'.cell? ⟨w.heap.size + 1, 3, none⟩ = some (.int .i64 m.g) ∧ w'.cell? ⟨b1, o1 + k * 4, none⟩ = some (.int .i64 z.c) ∧ w'.cell? ⟨b1, o1 + k * 4 + 1, none⟩ = some (.int .i64 z.b) ∧ w'.cell? ⟨b1, o1 + k * 4 + 2, none⟩ = some (.int .i64 z.m) ∧ w'.cell? ⟨b1, o1 + k * 4 + 3, none⟩ = some (.int .i64 z.g)) := fun w' h => ⟨(VM.kept h).2.1 0 (by simp), (VM.kept h).2.1 1 (by simp), (VM.kept h).2.1 2 (by simp), (VM.kept h).2.1 3 (by simp), ((bcell h).1 _ _ (World.block_lt_of_cell? (a := ⟨b1, o1 + k * 4, none⟩) wr p0)).trans p0, ((bcell h).1 _ _ (World.block_lt_of_cell? (a := ⟨b1, o1 + k * 4, none⟩) wr p0)).trans p1, ((bcell h).1 _ _ (World.block_lt_of_cell? (a := ⟨b1, o1 + k * 4, none⟩) wr p0)).trans p2, ((bcell h).1 _ _ (World.block_lt_of_cell? (a := ⟨b1, o1 + k * 4, none⟩) wr p0)).trans p3⟩
        have K := Hid.mk K
        clear p0 p1 p2 p3
        go_wp2_with fail
        refine wp_region_held_drew (S := (fun w' => w'.cell? ⟨w.heap.size + 1, 0, none⟩ = some (.int .i64 m.c) ∧ w'.cell? ⟨w.heap.size + 1, 1, none⟩ = some (.int .i64 m.b) ∧ w'.cell? ⟨w.heap.size + 1, 2, none⟩ = some (.int .i64 m.m) ∧ w'.cell? ⟨w.heap.size + 1, 3, none⟩ = some (.int .i64 m.g) ∧ w'.cell? ⟨b1, o1 + k * 4, none⟩ = some (.int .i64 z.c) ∧ w'.cell? ⟨b1, o1 + k * 4 + 1, none⟩ = some (.int .i64 z.b) ∧ w'.cell? ⟨b1, o1 + k * 4 + 2, none⟩ = some (.int .i64 z.m) ∧ w'.cell? ⟨b1, o1 + k * 4 + 3, none⟩ = some (.int .i64 z.g))) (by kernel_rfl) (K.out _ (Below.refl _ _).drew) (fun hHeld => ?_)
        refine wpAnyH_take (i := 0) (oi := _) (v := ?vz6u1) rfl (by kernel_rfl) (by kernel_rfl) (by kernel_rfl) (fun _ _ _ h => h) (Or.inl ⟨by kernel_rfl, ?hyz6u1⟩) hHeld ?restz6u1
        case hyz6u1 => (intro w hSw; (try dsimp only at hSw); go_simp; first | done | with_reducible rfl)
        try simp only [Act.put, List.getElem_toArray, List.getElem_cons_zero, List.setIfInBounds_toArray, List.set_cons_zero, List.set_cons_succ]
        refine wpAnyH_take (i := 1) (oi := _) (v := ?vz6u2) rfl (by kernel_rfl) (by kernel_rfl) (by kernel_rfl) (fun _ _ _ h => h) (Or.inl ⟨by kernel_rfl, ?hyz6u2⟩) hHeld ?restz6u2
        case hyz6u2 => (intro w hSw; (try dsimp only at hSw); go_simp; first | done | with_reducible rfl)
        try simp only [Act.put, List.getElem_toArray, List.getElem_cons_zero, List.getElem_cons_succ, List.setIfInBounds_toArray, List.set_cons_zero, List.set_cons_succ]
        refine wpAnyH_take (i := 2) (oi := _) (v := ?vz6u3) rfl (by kernel_rfl) (by kernel_rfl) (by kernel_rfl) (fun _ _ _ h => h) (Or.inl ⟨by kernel_rfl, ?hyz6u3⟩) hHeld ?restz6u3
        case hyz6u3 => (intro w hSw; (try dsimp only at hSw); go_simp; first | done | with_reducible rfl)
        try simp only [Act.put, List.getElem_toArray, List.getElem_cons_zero, List.getElem_cons_succ, List.setIfInBounds_toArray, List.set_cons_zero, List.set_cons_succ]
        refine wpAnyH_take (i := 3) (oi := _) (v := ?vz6u4) rfl (by kernel_rfl) (by kernel_rfl) (by kernel_rfl) (fun _ _ _ h => h) (Or.inl ⟨by kernel_rfl, ?hyz6u4⟩) hHeld ?restz6u4
        case hyz6u4 => (intro w hSw; (try dsimp only at hSw); go_simp; first | done | with_reducible rfl)
        try simp only [Act.put, List.getElem_toArray, List.getElem_cons_zero, List.getElem_cons_succ, List.setIfInBounds_toArray, List.set_cons_zero, List.set_cons_succ]
        refine wpAnyH_take (i := 4) (oi := _) (v := ?vz6u5) rfl (by kernel_rfl) (by kernel_rfl) (by kernel_rfl) (fun _ _ _ h => h) (Or.inl ⟨by kernel_rfl, ?hyz6u5⟩) hHeld ?restz6u5
        case hyz6u5 => (intro w hSw; (try dsimp only at hSw); go_simp; first | done | with_reducible rfl)
        try simp only [Act.put, List.getElem_toArray, List.getElem_cons_zero, List.getElem_cons_succ, List.setIfInBounds_toArray, List.set_cons_zero, List.set_cons_succ]
        refine wpAnyH_take (i := 5) (oi := _) (v := ?vz6u6) rfl (by kernel_rfl) (by kernel_rfl) (by kernel_rfl) (fun _ _ _ h => h) (Or.inl ⟨by kernel_rfl, ?hyz6u6⟩) hHeld ?restz6u6
        case hyz6u6 => (intro w hSw; (try dsimp only at hSw); go_simp; first | done | with_reducible rfl)
        try simp only [Act.put, List.getElem_toArray, List.getElem_cons_zero, List.getElem_cons_succ, List.setIfInBounds_toArray, List.set_cons_zero, List.set_cons_succ]
        refine wpAnyH_ready (rs := [6]) (by kernel_rfl) (by simp) ?_
        refine AllReadyH.cons (o := _) rfl (fun K0 hK0 => ?_) AllReadyH.nil
        go_simp
        go_at_call 51
        refine (CC.out _).mono ?_
        rintro e wz6v7 ⟨rfl, bz6v7⟩
        refine hK0.out _ _ (K.out _ (thenB (Below.refl _ _).drew bz6v7)) (fun hHeld => ?_)
        clear hK0 K0
        try simp only [Act.put, List.getElem_toArray, List.getElem_cons_zero, List.getElem_cons_succ, List.setIfInBounds_toArray, List.set_cons_zero, List.set_cons_succ]
        refine wpAnyH_take (i := 7) (oi := _) (v := ?vz6u8) rfl (by kernel_rfl) (by kernel_rfl) (by kernel_rfl) (fun _ _ _ h => h) (Or.inl ⟨by kernel_rfl, ?hyz6u8⟩) hHeld ?restz6u8
        case hyz6u8 => (intro w hSw; (try dsimp only at hSw); go_simp; first | done | with_reducible rfl)
        try simp only [Act.put, List.getElem_toArray, List.getElem_cons_zero, List.getElem_cons_succ, List.setIfInBounds_toArray, List.set_cons_zero, List.set_cons_succ]
        refine wpAnyH_done (by kernel_rfl) ?_ _
        clear K hHeld
        replace VR := VR.kept (thenB (Below.refl _ _).drew bz6v7)
        replace VM := VM.kept (thenB (Below.refl _ _).drew bz6v7)
        replace B := thenB B (thenB (Below.refl _ _).drew bz6v7)
        have Sz6 := ((thenB (Below.refl _ _).drew bz6v7)).size
        clear bz6v7
        obtain ⟨s_VR, f_VR, z_VR⟩ := VR.open
        obtain ⟨s_VM, f_VM, z_VM⟩ := VM.open
        have Bo := B
        obtain ⟨p0, p1, p2, p3⟩ := (HW.out.kept Bo).at k (by omega) z HZ.out
        clear s_VR f_VR z_VR s_VM f_VM z_VM
        replace VR := VR.other (p := ⟨w.heap.size + 1, 0, none⟩) (by (try simp); (try omega)) (.int .i64 z.c)
        have VMo := VM
        have VRo := VR
        obtain ⟨s_VMo, f_VMo, z_VMo⟩ := VMo.open
        obtain ⟨s_VRo, f_VRo, z_VRo⟩ := VRo.open
        replace VM := VM.set (i := 0) (by simp) (.int .i64 z.c)
        simp only [List.set_cons_zero] at VM
        replace B := B.setCell (p := ⟨w.heap.size + 1, 0, none⟩) (by (try simp); (try omega)) (.int .i64 z.c)
        replace VR := VR.other (p := ⟨w.heap.size + 1, 1, none⟩) (by (try simp); (try omega)) (.int .i64 z.b)
        replace VM := VM.set (i := 1) (by simp) (.int .i64 z.b)
        simp only [List.set_cons_zero, List.set_cons_succ] at VM
        replace B := B.setCell (p := ⟨w.heap.size + 1, 1, none⟩) (by (try simp); (try omega)) (.int .i64 z.b)
        replace VR := VR.other (p := ⟨w.heap.size + 1, 2, none⟩) (by (try simp); (try omega)) (.int .i64 z.m)
        replace VM := VM.set (i := 2) (by simp) (.int .i64 z.m)
        simp only [List.set_cons_zero, List.set_cons_succ] at VM
        replace B := B.setCell (p := ⟨w.heap.size + 1, 2, none⟩) (by (try simp); (try omega)) (.int .i64 z.m)
        replace VR := VR.other (p := ⟨w.heap.size + 1, 3, none⟩) (by (try simp); (try omega)) (.int .i64 z.g)
        replace VM := VM.set (i := 3) (by simp) (.int .i64 z.g)
        simp only [List.set_cons_zero, List.set_cons_succ] at VM
        replace B := B.setCell (p := ⟨w.heap.size + 1, 3, none⟩) (by (try simp); (try omega)) (.int .i64 z.g)
        replace B := Hid.mk B
        replace VM := Hid.mk VM
        replace VR := Hid.mk VR
        go_wp2
        go_roundw
        case rel => exact ⟨k + 1, by omega, by omega, by go_num, VR.out, by rw [HS.out]; exact VM.out, B.out⟩
        case measure => simp [intOf]; omega
      · rw [if_neg hr] at hst
        rw [rk_same hmo hzo] at hr
        have hv := cmpI_le hr
        generalize cmpI (rkF z) (rkF m) = v at *
        have dv : decide (0 < v) = false := decide_eq_false hv
        clear hr hzo hmo hv
        have HS := Hid.mk hst
        clear hst
        obtain ⟨s_VR, f_VR, z_VR⟩ := VR.open
        obtain ⟨s_VM, f_VM, z_VM⟩ := VM.open
        clear s_VR f_VR z_VR s_VM f_VM z_VM
        have K : ∀ w' : World, Below wr.heap.size wr w' → (w'.cell? ⟨w.heap.size + 1, 0, none⟩ = some (.int .i64 m.c) ∧ w'.cell? ⟨w.heap.size + 1, 1, none⟩ = some (.int .i64 m.b) ∧ w'.cell? ⟨w.heap.size + 1, 2, none⟩ = some (.int .i64 m.m) ∧ w'.cell? ⟨w.heap.size + 1, 3, none⟩ = some (.int .i64 m.g) ∧ w'.cell? ⟨b1, o1 + k * 4, none⟩ = some (.int .i64 z.c) ∧ w'.cell? ⟨b1, o1 + k * 4 + 1, none⟩ = some (.int .i64 z.b) ∧ w'.cell? ⟨b1, o1 + k * 4 + 2, none⟩ = some (.int .i64 z.m) ∧ w'.cell? ⟨b1, o1 + k * 4 + 3, none⟩ = some (.int .i64 z.g)) := fun w' h => ⟨(VM.kept h).2.1 0 (by simp), (VM.kept h).2.1 1 (by simp), (VM.kept h).2.1 2 (by simp), (VM.kept h).2.1 3 (by simp), ((bcell h).1 _ _ (World.block_lt_of_cell? (a := ⟨b1, o1 + k * 4, none⟩) wr p0)).trans p0, ((bcell h).1 _ _ (World.block_lt_of_cell? (a := ⟨b1, o1 + k * 4, none⟩) wr p0)).trans p1, ((bcell h).1 _ _ (World.block_lt_of_cell? (a := ⟨b1, o1 + k * 4, none⟩) wr p0)).trans p2, ((bcell h).1 _ _ (World.block_lt_of_cell? (a := ⟨b1, o1 + k * 4, none⟩) wr p0)).trans p3⟩
        have K := Hid.mk K
        clear p0 p1 p2 p3
        go_wp2_with fail
        refine wp_region_held_drew (S := (fun w' => w'.cell? ⟨w.heap.size + 1, 0, none⟩ = some (.int .i64 m.c) ∧ w'.cell? ⟨w.heap.size + 1, 1, none⟩ = some (.int .i64 m.b) ∧ w'.cell? ⟨w.heap.size + 1, 2, none⟩ = some (.int .i64 m.m) ∧ w'.cell? ⟨w.heap.size + 1, 3, none⟩ = some (.int .i64 m.g) ∧ w'.cell? ⟨b1, o1 + k * 4, none⟩ = some (.int .i64 z.c) ∧ w'.cell? ⟨b1, o1 + k * 4 + 1, none⟩ = some (.int .i64 z.b) ∧ w'.cell? ⟨b1, o1 + k * 4 + 2, none⟩ = some (.int .i64 z.m) ∧ w'.cell? ⟨b1, o1 + k * 4 + 3, none⟩ = some (.int .i64 z.g))) (by kernel_rfl) (K.out _ (Below.refl _ _).drew) (fun hHeld => ?_)
        refine wpAnyH_take (i := 0) (oi := _) (v := ?vz1u1) rfl (by kernel_rfl) (by kernel_rfl) (by kernel_rfl) (fun _ _ _ h => h) (Or.inl ⟨by kernel_rfl, ?hyz1u1⟩) hHeld ?restz1u1
        case hyz1u1 => (intro w hSw; (try dsimp only at hSw); go_simp; first | done | with_reducible rfl)
        try simp only [Act.put, List.getElem_toArray, List.getElem_cons_zero, List.setIfInBounds_toArray, List.set_cons_zero, List.set_cons_succ]
        refine wpAnyH_take (i := 1) (oi := _) (v := ?vz1u2) rfl (by kernel_rfl) (by kernel_rfl) (by kernel_rfl) (fun _ _ _ h => h) (Or.inl ⟨by kernel_rfl, ?hyz1u2⟩) hHeld ?restz1u2
        case hyz1u2 => (intro w hSw; (try dsimp only at hSw); go_simp; first | done | with_reducible rfl)
        try simp only [Act.put, List.getElem_toArray, List.getElem_cons_zero, List.getElem_cons_succ, List.setIfInBounds_toArray, List.set_cons_zero, List.set_cons_succ]
        refine wpAnyH_take (i := 2) (oi := _) (v := ?vz1u3) rfl (by kernel_rfl) (by kernel_rfl) (by kernel_rfl) (fun _ _ _ h => h) (Or.inl ⟨by kernel_rfl, ?hyz1u3⟩) hHeld ?restz1u3
        case hyz1u3 => (intro w hSw; (try dsimp only at hSw); go_simp; first | done | with_reducible rfl)
        try simp only [Act.put, List.getElem_toArray, List.getElem_cons_zero, List.getElem_cons_succ, List.setIfInBounds_toArray, List.set_cons_zero, List.set_cons_succ]
        refine wpAnyH_take (i := 3) (oi := _) (v := ?vz1u4) rfl (by kernel_rfl) (by kernel_rfl) (by kernel_rfl) (fun _ _ _ h => h) (Or.inl ⟨by kernel_rfl, ?hyz1u4⟩) hHeld ?restz1u4
        case hyz1u4 => (intro w hSw; (try dsimp only at hSw); go_simp; first | done | with_reducible rfl)
        try simp only [Act.put, List.getElem_toArray, List.getElem_cons_zero, List.getElem_cons_succ, List.setIfInBounds_toArray, List.set_cons_zero, List.set_cons_succ]
        refine wpAnyH_take (i := 4) (oi := _) (v := ?vz1u5) rfl (by kernel_rfl) (by kernel_rfl) (by kernel_rfl) (fun _ _ _ h => h) (Or.inl ⟨by kernel_rfl, ?hyz1u5⟩) hHeld ?restz1u5
        case hyz1u5 => (intro w hSw; (try dsimp only at hSw); go_simp; first | done | with_reducible rfl)
        try simp only [Act.put, List.getElem_toArray, List.getElem_cons_zero, List.getElem_cons_succ, List.setIfInBounds_toArray, List.set_cons_zero, List.set_cons_succ]
        refine wpAnyH_take (i := 5) (oi := _) (v := ?vz1u6) rfl (by kernel_rfl) (by kernel_rfl) (by kernel_rfl) (fun _ _ _ h => h) (Or.inl ⟨by kernel_rfl, ?hyz1u6⟩) hHeld ?restz1u6
        case hyz1u6 => (intro w hSw; (try dsimp only at hSw); go_simp; first | done | with_reducible rfl)
        try simp only [Act.put, List.getElem_toArray, List.getElem_cons_zero, List.getElem_cons_succ, List.setIfInBounds_toArray, List.set_cons_zero, List.set_cons_succ]
        refine wpAnyH_ready (rs := [6]) (by kernel_rfl) (by simp) ?_
        refine AllReadyH.cons (o := _) rfl (fun K0 hK0 => ?_) AllReadyH.nil
        go_simp
        go_at_call 51
        refine (CC.out _).mono ?_
        rintro e wz1v7 ⟨rfl, bz1v7⟩
        refine hK0.out _ _ (K.out _ (thenB (Below.refl _ _).drew bz1v7)) (fun hHeld => ?_)
        clear hK0 K0
        try simp only [Act.put, List.getElem_toArray, List.getElem_cons_zero, List.getElem_cons_succ, List.setIfInBounds_toArray, List.set_cons_zero, List.set_cons_succ]
        refine wpAnyH_take (i := 7) (oi := _) (v := ?vz1u8) rfl (by kernel_rfl) (by kernel_rfl) (by kernel_rfl) (fun _ _ _ h => h) (Or.inl ⟨by kernel_rfl, ?hyz1u8⟩) hHeld ?restz1u8
        case hyz1u8 => (intro w hSw; (try dsimp only at hSw); go_simp; first | done | with_reducible rfl)
        try simp only [Act.put, List.getElem_toArray, List.getElem_cons_zero, List.getElem_cons_succ, List.setIfInBounds_toArray, List.set_cons_zero, List.set_cons_succ]
        refine wpAnyH_done (by kernel_rfl) ?_ _
        clear K hHeld
        replace VR := VR.kept (thenB (Below.refl _ _).drew bz1v7)
        replace VM := VM.kept (thenB (Below.refl _ _).drew bz1v7)
        replace B := thenB B (thenB (Below.refl _ _).drew bz1v7)
        have Sz1 := ((thenB (Below.refl _ _).drew bz1v7)).size
        clear bz1v7
        obtain ⟨s_VR, f_VR, z_VR⟩ := VR.open
        obtain ⟨s_VM, f_VM, z_VM⟩ := VM.open
        have Bo := B
        replace B := Hid.mk B
        go_wp2
        go_roundw
        case rel => exact ⟨k + 1, by omega, by omega, by go_num, VR, by rw [HS.out]; exact VM, B.out⟩
        case measure => simp [intOf]; omega
    · have hkn : k = n := by omega
      subst hkn
      obtain ⟨m, hm⟩ : ∃ m, xs.getD (bst xs k) zSuite = m := ⟨_, rfl⟩
      rw [hm] at VM
      have HM := Hid.mk hm
      clear hm
      obtain ⟨s_VR, f_VR, z_VR⟩ := VR.open
      obtain ⟨s_VM, f_VM, z_VM⟩ := VM.open
      clear s_VR f_VR z_VR s_VM f_VM z_VM
      have VF := Hid.mk (VR.filled [.int .i64 m.c, .int .i64 m.b, .int .i64 m.m, .int .i64 m.g] rfl)
      have BR := belowCells B (show w.heap.size ≤ w.heap.size by (first | omega | (simp; done) | (simp; omega))) 0 [.int .i64 m.c, .int .i64 m.b, .int .i64 m.m, .int .i64 m.g]
      have HT := Hid.mk VR.there
      replace BR := Hid.mk BR
      obtain ⟨s_VR, f_VR, z_VR⟩ := VR.open
      obtain ⟨s_VM, f_VM, z_VM⟩ := VM.open
      go_wp2_with (refine wpList_store_mid rfl 28 _ _ rfl (w.heap.size) 0 #[.int .i64 m.c, .int .i64 m.b, .int .i64 m.m, .int .i64 m.g] rfl rfl HT.out (by kernel_rfl) (by kernel_rfl) ?_)
      refine bodyPost_ret (v := .agg #[.int .i64 m.c, .int .i64 m.b, .int .i64 m.m, .int .i64 m.g]) (results_row Try.results50 _ _ (w.heap.size) [.int .i64 m.c, .int .i64 m.b, .int .i64 m.m, .int .i64 m.g] _ rfl VF.out Try.underlying28 rfl (by kernel_rfl)) rfl ⟨by rw [HM.out], BR.out⟩

set_option maxRecDepth 20000 in
set_option maxHeartbeats 4000000 in
theorem implStrongest_ok (a : Option Addr) (n ca : Nat) (xs : List Su) (w : World) (ha : RdSuite w a xs) (hn : xs.length = n) (hc : n ≤ ca) (hx : ca ≤ maxLen) :
    Calls Try.prog 17 #[.slice a n ca] w fun e w' => e = .returned (.agg #[.int .i64 (ssF xs), .int .i64 (stA xs), .int .i64 (stS xs).c, .int .i64 (stS xs).b, .int .i64 (stS xs).m, .int .i64 (stS xs).g]) ∧ Below w.heap.size w w' := by
  have CF := Hid.mk (fun w h => implSuitesFault_ok a n ca xs w h hn hc hx)
  by_cases h0 : ssF xs = 0
  · obtain ⟨l1, l2, hnd, hok⟩ := ssF_ok h0
    have e1 : stA xs = (bst xs n : Int) := by unfold stA; rw [if_pos h0, hn]
    have e2 : stS xs = xs.getD (bst xs n) zSuite := by unfold stS; rw [if_pos h0, hn]
    have e3 := atSu_nodup hnd (bst xs n) (bst_in xs n (by omega) (by omega)) 0
    rw [Int.zero_add] at e3
    rw [e1, e2, h0]
    simp only [h0] at CF
    have CM := Hid.mk (fun w h => maxSu_ok a n ca xs w h hn (by omega) (by omega) hok)
    have CP := Hid.mk (fun w h => placedIn_ok a n ca xs (xs.getD (bst xs n) zSuite) w h hn (by omega))
    rw [e3] at CP
    generalize xs.getD (bst xs n) zSuite = m at *
    generalize (bst xs n : Int) = t at *
    clear h0 e1 e2 e3 hnd hok l1 l2 hx hc hn
    go_enter Try.func17, Try.ntmps17
    have B := Below.refl w.heap.size w
    replace ha := ha.kept (belowA w (.cells #[.int .i64 0, .int .i64 0, .int .i64 0, .int .i64 0, .int .i64 0, .int .i64 0] 30))
    replace B := thenB B (belowA w (.cells #[.int .i64 0, .int .i64 0, .int .i64 0, .int .i64 0, .int .i64 0, .int .i64 0] 30))
    have VR := V.new w [.int .i64 0, .int .i64 0, .int .i64 0, .int .i64 0, .int .i64 0, .int .i64 0] 30
    obtain ⟨s_VR, f_VR, z_VR⟩ := VR.open
    have Bo := B
    go_wp2_with fail
    refine (CF.out _ ha).mono ?_
    rintro e w1 ⟨rfl, b1⟩
    clear s_VR f_VR z_VR
    have S1 := b1.size
    simp only [World.size_alloc] at S1
    replace VR := VR.kept b1
    replace ha := ha.kept b1
    replace B := thenB B b1
    clear b1
    obtain ⟨s_VR, f_VR, z_VR⟩ := VR.open
    have Bo := B
    go_wp2_with fail
    refine (CM.out _ ha).mono ?_
    rintro e w2 ⟨rfl, b2⟩
    clear s_VR f_VR z_VR
    have S2 := b2.size
    replace VR := VR.kept b2
    replace ha := ha.kept b2
    replace B := thenB B b2
    clear b2
    obtain ⟨s_VR, f_VR, z_VR⟩ := VR.open
    have Bo := B
    go_wp2_with fail
    refine (CP.out _ ha).mono ?_
    rintro e w3 ⟨rfl, b3⟩
    clear s_VR f_VR z_VR
    have S3 := b3.size
    replace VR := VR.kept b3
    replace ha := ha.kept b3
    replace B := thenB B b3
    clear b3
    obtain ⟨s_VR, f_VR, z_VR⟩ := VR.open
    have Bo := B
    clear s_VR f_VR z_VR
    have VF := Hid.mk (VR.filled [.int .i64 0, .int .i64 t, .int .i64 m.c, .int .i64 m.b, .int .i64 m.m, .int .i64 m.g] rfl)
    have BR := belowCells B (show w.heap.size ≤ w.heap.size by (first | omega | (simp; done) | (simp; omega))) 0 [.int .i64 0, .int .i64 t, .int .i64 m.c, .int .i64 m.b, .int .i64 m.m, .int .i64 m.g]
    have HT := Hid.mk VR.there
    replace BR := Hid.mk BR
    obtain ⟨s_VR, f_VR, z_VR⟩ := VR.open
    go_wp2_with (refine wpList_store_mid rfl 30 _ _ rfl (w.heap.size) 0 #[.int .i64 0, .int .i64 t, .int .i64 m.c, .int .i64 m.b, .int .i64 m.m, .int .i64 m.g] rfl rfl HT.out (by kernel_rfl) (by kernel_rfl) ?_)
    refine bodyPost_ret (v := .agg #[.int .i64 0, .int .i64 t, .int .i64 m.c, .int .i64 m.b, .int .i64 m.m, .int .i64 m.g]) (results_row Try.results17 _ _ (w.heap.size) [.int .i64 0, .int .i64 t, .int .i64 m.c, .int .i64 m.b, .int .i64 m.m, .int .i64 m.g] _ rfl VF.out Try.underlying30 rfl (by kernel_rfl)) rfl ⟨rfl, BR.out⟩
  · have e1 : stA xs = 0 := by unfold stA; rw [if_neg h0]
    have e2 : stS xs = zSuite := by unfold stS; rw [if_neg h0]
    have hne : (ssF xs != 0) = true := by simp [h0]
    rw [e1, e2]
    generalize ssF xs = kc at *
    clear h0 e1 e2 hx hc hn
    go_enter Try.func17, Try.ntmps17
    have B := Below.refl w.heap.size w
    replace ha := ha.kept (belowA w (.cells #[.int .i64 0, .int .i64 0, .int .i64 0, .int .i64 0, .int .i64 0, .int .i64 0] 30))
    replace B := thenB B (belowA w (.cells #[.int .i64 0, .int .i64 0, .int .i64 0, .int .i64 0, .int .i64 0, .int .i64 0] 30))
    have VR := V.new w [.int .i64 0, .int .i64 0, .int .i64 0, .int .i64 0, .int .i64 0, .int .i64 0] 30
    obtain ⟨s_VR, f_VR, z_VR⟩ := VR.open
    have Bo := B
    go_wp2_with fail
    refine (CF.out _ ha).mono ?_
    rintro e w1 ⟨rfl, b1⟩
    clear s_VR f_VR z_VR
    have S1 := b1.size
    simp only [World.size_alloc] at S1
    replace VR := VR.kept b1
    replace ha := ha.kept b1
    replace B := thenB B b1
    clear b1
    obtain ⟨s_VR, f_VR, z_VR⟩ := VR.open
    have Bo := B
    clear s_VR f_VR z_VR
    have VF := Hid.mk (VR.filled [.int .i64 kc, .int .i64 0, .int .i64 0, .int .i64 0, .int .i64 0, .int .i64 0] rfl)
    have BR := belowCells B (show w.heap.size ≤ w.heap.size by (first | omega | (simp; done) | (simp; omega))) 0 [.int .i64 kc, .int .i64 0, .int .i64 0, .int .i64 0, .int .i64 0, .int .i64 0]
    have HT := Hid.mk VR.there
    replace BR := Hid.mk BR
    obtain ⟨s_VR, f_VR, z_VR⟩ := VR.open
    go_wp2_with (refine wpList_store_mid rfl 30 _ _ rfl (w.heap.size) 0 #[.int .i64 kc, .int .i64 0, .int .i64 0, .int .i64 0, .int .i64 0, .int .i64 0] rfl rfl HT.out (by kernel_rfl) (by kernel_rfl) ?_)
    refine bodyPost_ret (v := .agg #[.int .i64 kc, .int .i64 0, .int .i64 0, .int .i64 0, .int .i64 0, .int .i64 0]) (results_row Try.results17 _ _ (w.heap.size) [.int .i64 kc, .int .i64 0, .int .i64 0, .int .i64 0, .int .i64 0, .int .i64 0] _ rfl VF.out Try.underlying30 rfl (by kernel_rfl)) rfl ⟨rfl, BR.out⟩

set_option maxRecDepth 20000 in
set_option maxHeartbeats 4000000 in
theorem specStrongest_ok (a : Option Addr) (n ca : Nat) (xs : List Su) (w : World) (ha : RdSuite w a xs) (hn : xs.length = n) (hc : n ≤ ca) (hx : ca ≤ maxLen) :
    Calls Try.prog 36 #[.slice a n ca] w fun e w' => e = .returned (.agg #[.int .i64 (ssF xs), .int .i64 (stA xs), .int .i64 (stS xs).c, .int .i64 (stS xs).b, .int .i64 (stS xs).m, .int .i64 (stS xs).g]) ∧ Below w.heap.size w w' := by
  have CF := Hid.mk (fun w h => specSuitesFault_ok a n ca xs w h hn hc hx)
  by_cases h0 : ssF xs = 0
  · obtain ⟨l1, l2, hnd, hok⟩ := ssF_ok h0
    have e1 : stA xs = (bst xs n : Int) := by unfold stA; rw [if_pos h0, hn]
    have e2 : stS xs = xs.getD (bst xs n) zSuite := by unfold stS; rw [if_pos h0, hn]
    rw [e1, e2, h0]
    simp only [h0] at CF
    have HW := Hid.mk ha
    have hlen : 1 ≤ n := by omega
    unfold maxLen at hx
    clear h0 e1 e2 hnd l1 l2
    go_enter Try.func36, Try.ntmps36
    have B := Below.refl w.heap.size w
    replace ha := ha.kept (belowA w (.cells #[.int .i64 0, .int .i64 0, .int .i64 0, .int .i64 0, .int .i64 0, .int .i64 0] 30))
    replace B := thenB B (belowA w (.cells #[.int .i64 0, .int .i64 0, .int .i64 0, .int .i64 0, .int .i64 0, .int .i64 0] 30))
    have VR := V.new w [.int .i64 0, .int .i64 0, .int .i64 0, .int .i64 0, .int .i64 0, .int .i64 0] 30
    obtain ⟨s_VR, f_VR, z_VR⟩ := VR.open
    have Bo := B
    go_wp2_with fail
    refine (CF.out _ ha).mono ?_
    rintro e w1 ⟨rfl, b1⟩
    clear s_VR f_VR z_VR
    have S1 := b1.size
    simp only [World.size_alloc] at S1
    replace VR := VR.kept b1
    replace ha := ha.kept b1
    replace B := thenB B b1
    clear b1
    obtain ⟨s_VR, f_VR, z_VR⟩ := VR.open
    have Bo := B
    clear s_VR f_VR z_VR
    rcases ha with ha | ⟨b1, o1, rfl, hca⟩
    · rw [ha] at hn; simp at hn; omega
    clear hca
    go_wp2
    go_loopw [4, 5] (fun t i wr => ∃ k : Nat, 1 ≤ k ∧ k ≤ n ∧ i = .int .i64 k ∧ t = .int .i64 (bst xs k : Nat) ∧ V wr w.heap.size [.int .i64 0, .int .i64 0, .int .i64 0, .int .i64 0, .int .i64 0, .int .i64 0] ∧ Below w.heap.size w wr) (fun _ i _ => n - (intOf i).toNat)
    case atStart => exact ⟨1, Nat.le_refl _, hlen, rfl, by rw [bst_one]; rfl, VR, Bo⟩
    case round =>
      clear VR B Bo
      obtain ⟨k, hk1, hk, rfl, rfl, VR, B⟩ := hrel
      obtain ⟨t, ht⟩ : ∃ t, bst xs k = t := ⟨_, rfl⟩
      have htn : t < n := by have := bst_in xs k (by omega) (by omega); omega
      have hti : (t : Int) < (n : Int) := by omega
      obtain ⟨m, hm⟩ : ∃ m, xs.getD t zSuite = m := ⟨_, rfl⟩
      have hmo : okSu m = true := by rw [← hm]; exact hok _ (getDSuite_mem (by omega))
      have ha := HW.out.kept B
      obtain ⟨q0, q1, q2, q3⟩ := ha.at t (by omega) m hm
      by_cases hlt : k < n
      · obtain ⟨z, hz⟩ : ∃ z, xs.getD k zSuite = z := ⟨_, rfl⟩
        have hzo : okSu z = true := by rw [← hz]; exact hok _ (getDSuite_mem (by omega))
        have hst : bst xs (k + 1) = if rkI m < rkI z then k else t := by
          show (if _ then k else bst xs k) = _
          rw [ht, hm, hz]
        have hki : (k : Int) < (n : Int) := by omega
        obtain ⟨p0, p1, p2, p3⟩ := ha.at k (by omega) z hz
        have CM := Hid.mk (fun w => l8Rank_ok m hmo w)
        have CZ := Hid.mk (fun w => l8Rank_ok z hzo w)
        rw [ht]
        clear ha hz hm hlt hmo hzo ht
        generalize rkI m = rm at *
        generalize rkI z = rz at *
        cases hr : decide (rm < rz)
        · rw [if_neg (by simpa using hr)] at hst
          have HS := Hid.mk hst
          clear hst
          obtain ⟨s_VR, f_VR, z_VR⟩ := VR.open
          clear s_VR f_VR z_VR
          have K : ∀ w' : World, Below wr.heap.size wr w' → (w'.cell? ⟨b1, o1 + k * 4, none⟩ = some (.int .i64 z.c) ∧ w'.cell? ⟨b1, o1 + k * 4 + 1, none⟩ = some (.int .i64 z.b) ∧ w'.cell? ⟨b1, o1 + k * 4 + 2, none⟩ = some (.int .i64 z.m) ∧ w'.cell? ⟨b1, o1 + k * 4 + 3, none⟩ = some (.int .i64 z.g) ∧ w'.cell? ⟨b1, o1 + t * 4, none⟩ = some (.int .i64 m.c) ∧ w'.cell? ⟨b1, o1 + t * 4 + 1, none⟩ = some (.int .i64 m.b) ∧ w'.cell? ⟨b1, o1 + t * 4 + 2, none⟩ = some (.int .i64 m.m) ∧ w'.cell? ⟨b1, o1 + t * 4 + 3, none⟩ = some (.int .i64 m.g)) := fun w' h => ⟨((bcell h).1 _ _ (World.block_lt_of_cell? (a := ⟨b1, o1 + k * 4, none⟩) wr p0)).trans p0, ((bcell h).1 _ _ (World.block_lt_of_cell? (a := ⟨b1, o1 + k * 4, none⟩) wr p0)).trans p1, ((bcell h).1 _ _ (World.block_lt_of_cell? (a := ⟨b1, o1 + k * 4, none⟩) wr p0)).trans p2, ((bcell h).1 _ _ (World.block_lt_of_cell? (a := ⟨b1, o1 + k * 4, none⟩) wr p0)).trans p3, ((bcell h).1 _ _ (World.block_lt_of_cell? (a := ⟨b1, o1 + k * 4, none⟩) wr p0)).trans q0, ((bcell h).1 _ _ (World.block_lt_of_cell? (a := ⟨b1, o1 + k * 4, none⟩) wr p0)).trans q1, ((bcell h).1 _ _ (World.block_lt_of_cell? (a := ⟨b1, o1 + k * 4, none⟩) wr p0)).trans q2, ((bcell h).1 _ _ (World.block_lt_of_cell? (a := ⟨b1, o1 + k * 4, none⟩) wr p0)).trans q3⟩
          have K := Hid.mk K
          clear p0 p1 p2 p3 q0 q1 q2 q3
          go_wp2_with fail
          refine wp_region_held_drew (S := (fun w' => w'.cell? ⟨b1, o1 + k * 4, none⟩ = some (.int .i64 z.c) ∧ w'.cell? ⟨b1, o1 + k * 4 + 1, none⟩ = some (.int .i64 z.b) ∧ w'.cell? ⟨b1, o1 + k * 4 + 2, none⟩ = some (.int .i64 z.m) ∧ w'.cell? ⟨b1, o1 + k * 4 + 3, none⟩ = some (.int .i64 z.g) ∧ w'.cell? ⟨b1, o1 + t * 4, none⟩ = some (.int .i64 m.c) ∧ w'.cell? ⟨b1, o1 + t * 4 + 1, none⟩ = some (.int .i64 m.b) ∧ w'.cell? ⟨b1, o1 + t * 4 + 2, none⟩ = some (.int .i64 m.m) ∧ w'.cell? ⟨b1, o1 + t * 4 + 3, none⟩ = some (.int .i64 m.g))) (by kernel_rfl) (K.out _ (Below.refl _ _).drew) (fun hHeld => ?_)
          refine wpAnyH_take (i := 0) (oi := _) (v := ?vz1u1) rfl (by kernel_rfl) (by kernel_rfl) (by kernel_rfl) (fun _ _ _ h => h) (Or.inl ⟨by kernel_rfl, ?hyz1u1⟩) hHeld ?restz1u1
          case hyz1u1 => (intro w hSw; (try dsimp only at hSw); go_simp; first | done | with_reducible rfl)
          try simp only [Act.put, List.getElem_toArray, List.getElem_cons_zero, List.setIfInBounds_toArray, List.set_cons_zero, List.set_cons_succ]
          refine wpAnyH_take (i := 1) (oi := _) (v := ?vz1u2) rfl (by kernel_rfl) (by kernel_rfl) (by kernel_rfl) (fun _ _ _ h => h) (Or.inl ⟨by kernel_rfl, ?hyz1u2⟩) hHeld ?restz1u2
          case hyz1u2 => (intro w hSw; (try dsimp only at hSw); go_simp; first | done | with_reducible rfl)
          try simp only [Act.put, List.getElem_toArray, List.getElem_cons_zero, List.getElem_cons_succ, List.setIfInBounds_toArray, List.set_cons_zero, List.set_cons_succ]
          refine wpAnyH_take (i := 2) (oi := _) (v := ?vz1u3) rfl (by kernel_rfl) (by kernel_rfl) (by kernel_rfl) (fun _ _ _ h => h) (Or.inl ⟨by kernel_rfl, ?hyz1u3⟩) hHeld ?restz1u3
          case hyz1u3 => (intro w hSw; (try dsimp only at hSw); go_simp; first | done | with_reducible rfl)
          try simp only [Act.put, List.getElem_toArray, List.getElem_cons_zero, List.getElem_cons_succ, List.setIfInBounds_toArray, List.set_cons_zero, List.set_cons_succ]
          refine wpAnyH_take (i := 3) (oi := _) (v := ?vz1u4) rfl (by kernel_rfl) (by kernel_rfl) (by kernel_rfl) (fun _ _ _ h => h) (Or.inl ⟨by kernel_rfl, ?hyz1u4⟩) hHeld ?restz1u4
          case hyz1u4 => (intro w hSw; (try dsimp only at hSw); go_simp; first | done | with_reducible rfl)
          try simp only [Act.put, List.getElem_toArray, List.getElem_cons_zero, List.getElem_cons_succ, List.setIfInBounds_toArray, List.set_cons_zero, List.set_cons_succ]
          refine wpAnyH_take (i := 5) (oi := _) (v := ?vz1u5) rfl (by kernel_rfl) (by kernel_rfl) (by kernel_rfl) (fun _ _ _ h => h) (Or.inl ⟨by kernel_rfl, ?hyz1u5⟩) hHeld ?restz1u5
          case hyz1u5 => (intro w hSw; (try dsimp only at hSw); go_simp; first | done | with_reducible rfl)
          try simp only [Act.put, List.getElem_toArray, List.getElem_cons_zero, List.getElem_cons_succ, List.setIfInBounds_toArray, List.set_cons_zero, List.set_cons_succ]
          refine wpAnyH_take (i := 6) (oi := _) (v := ?vz1u6) rfl (by kernel_rfl) (by kernel_rfl) (by kernel_rfl) (fun _ _ _ h => h) (Or.inl ⟨by kernel_rfl, ?hyz1u6⟩) hHeld ?restz1u6
          case hyz1u6 => (intro w hSw; (try dsimp only at hSw); go_simp; first | done | with_reducible rfl)
          try simp only [Act.put, List.getElem_toArray, List.getElem_cons_zero, List.getElem_cons_succ, List.setIfInBounds_toArray, List.set_cons_zero, List.set_cons_succ]
          refine wpAnyH_take (i := 7) (oi := _) (v := ?vz1u7) rfl (by kernel_rfl) (by kernel_rfl) (by kernel_rfl) (fun _ _ _ h => h) (Or.inl ⟨by kernel_rfl, ?hyz1u7⟩) hHeld ?restz1u7
          case hyz1u7 => (intro w hSw; (try dsimp only at hSw); go_simp; first | done | with_reducible rfl)
          try simp only [Act.put, List.getElem_toArray, List.getElem_cons_zero, List.getElem_cons_succ, List.setIfInBounds_toArray, List.set_cons_zero, List.set_cons_succ]
          refine wpAnyH_take (i := 8) (oi := _) (v := ?vz1u8) rfl (by kernel_rfl) (by kernel_rfl) (by kernel_rfl) (fun _ _ _ h => h) (Or.inl ⟨by kernel_rfl, ?hyz1u8⟩) hHeld ?restz1u8
          case hyz1u8 => (intro w hSw; (try dsimp only at hSw); go_simp; first | done | with_reducible rfl)
          try simp only [Act.put, List.getElem_toArray, List.getElem_cons_zero, List.getElem_cons_succ, List.setIfInBounds_toArray, List.set_cons_zero, List.set_cons_succ]
          refine wpAnyH_ready (rs := [4]) (by kernel_rfl) (by simp) ?_
          refine AllReadyH.cons (o := _) rfl (fun K0 hK0 => ?_) AllReadyH.nil
          go_simp
          go_at_call 60
          refine (CZ.out _).mono ?_
          rintro e wz1v9 ⟨rfl, bz1v9⟩
          refine hK0.out _ _ (K.out _ (thenB (Below.refl _ _).drew bz1v9)) (fun hHeld => ?_)
          clear hK0 K0
          try simp only [Act.put, List.getElem_toArray, List.getElem_cons_zero, List.getElem_cons_succ, List.setIfInBounds_toArray, List.set_cons_zero, List.set_cons_succ]
          refine wpAnyH_ready (rs := [9]) (by kernel_rfl) (by simp) ?_
          refine AllReadyH.cons (o := _) rfl (fun K0 hK0 => ?_) AllReadyH.nil
          go_simp
          go_at_call 60
          refine (CM.out _).mono ?_
          rintro e wz1v10 ⟨rfl, bz1v10⟩
          refine hK0.out _ _ (K.out _ (thenB (thenB (Below.refl _ _).drew bz1v9) bz1v10)) (fun hHeld => ?_)
          clear hK0 K0
          try simp only [Act.put, List.getElem_toArray, List.getElem_cons_zero, List.getElem_cons_succ, List.setIfInBounds_toArray, List.set_cons_zero, List.set_cons_succ]
          refine wpAnyH_take (i := 10) (oi := _) (v := ?vz1u11) rfl (by kernel_rfl) (by kernel_rfl) (by kernel_rfl) (fun _ _ _ h => h) (Or.inl ⟨by kernel_rfl, ?hyz1u11⟩) hHeld ?restz1u11
          case hyz1u11 => (intro w hSw; (try dsimp only at hSw); go_simp; first | done | with_reducible rfl)
          try simp only [Act.put, List.getElem_toArray, List.getElem_cons_zero, List.getElem_cons_succ, List.setIfInBounds_toArray, List.set_cons_zero, List.set_cons_succ]
          refine wpAnyH_done (by kernel_rfl) ?_ _
          clear K hHeld
          replace VR := VR.kept (thenB (thenB (Below.refl _ _).drew bz1v9) bz1v10)
          replace B := thenB B (thenB (thenB (Below.refl _ _).drew bz1v9) bz1v10)
          have Sz1 := ((thenB (thenB (Below.refl _ _).drew bz1v9) bz1v10)).size
          clear bz1v9 bz1v10
          obtain ⟨s_VR, f_VR, z_VR⟩ := VR.open
          have Bo := B
          replace B := Hid.mk B
          go_wp2
          go_roundw
          case rel => exact ⟨k + 1, by omega, by omega, by go_num, by rw [HS.out], VR, B.out⟩
          case measure => simp [intOf]; omega
        · rw [if_pos (by simpa using hr)] at hst
          have HS := Hid.mk hst
          clear hst
          obtain ⟨s_VR, f_VR, z_VR⟩ := VR.open
          clear s_VR f_VR z_VR
          have K : ∀ w' : World, Below wr.heap.size wr w' → (w'.cell? ⟨b1, o1 + k * 4, none⟩ = some (.int .i64 z.c) ∧ w'.cell? ⟨b1, o1 + k * 4 + 1, none⟩ = some (.int .i64 z.b) ∧ w'.cell? ⟨b1, o1 + k * 4 + 2, none⟩ = some (.int .i64 z.m) ∧ w'.cell? ⟨b1, o1 + k * 4 + 3, none⟩ = some (.int .i64 z.g) ∧ w'.cell? ⟨b1, o1 + t * 4, none⟩ = some (.int .i64 m.c) ∧ w'.cell? ⟨b1, o1 + t * 4 + 1, none⟩ = some (.int .i64 m.b) ∧ w'.cell? ⟨b1, o1 + t * 4 + 2, none⟩ = some (.int .i64 m.m) ∧ w'.cell? ⟨b1, o1 + t * 4 + 3, none⟩ = some (.int .i64 m.g)) := fun w' h => ⟨((bcell h).1 _ _ (World.block_lt_of_cell? (a := ⟨b1, o1 + k * 4, none⟩) wr p0)).trans p0, ((bcell h).1 _ _ (World.block_lt_of_cell? (a := ⟨b1, o1 + k * 4, none⟩) wr p0)).trans p1, ((bcell h).1 _ _ (World.block_lt_of_cell? (a := ⟨b1, o1 + k * 4, none⟩) wr p0)).trans p2, ((bcell h).1 _ _ (World.block_lt_of_cell? (a := ⟨b1, o1 + k * 4, none⟩) wr p0)).trans p3, ((bcell h).1 _ _ (World.block_lt_of_cell? (a := ⟨b1, o1 + k * 4, none⟩) wr p0)).trans q0, ((bcell h).1 _ _ (World.block_lt_of_cell? (a := ⟨b1, o1 + k * 4, none⟩) wr p0)).trans q1, ((bcell h).1 _ _ (World.block_lt_of_cell? (a := ⟨b1, o1 + k * 4, none⟩) wr p0)).trans q2, ((bcell h).1 _ _ (World.block_lt_of_cell? (a := ⟨b1, o1 + k * 4, none⟩) wr p0)).trans q3⟩
          have K := Hid.mk K
          clear p0 p1 p2 p3 q0 q1 q2 q3
          go_wp2_with fail
          refine wp_region_held_drew (S := (fun w' => w'.cell? ⟨b1, o1 + k * 4, none⟩ = some (.int .i64 z.c) ∧ w'.cell? ⟨b1, o1 + k * 4 + 1, none⟩ = some (.int .i64 z.b) ∧ w'.cell? ⟨b1, o1 + k * 4 + 2, none⟩ = some (.int .i64 z.m) ∧ w'.cell? ⟨b1, o1 + k * 4 + 3, none⟩ = some (.int .i64 z.g) ∧ w'.cell? ⟨b1, o1 + t * 4, none⟩ = some (.int .i64 m.c) ∧ w'.cell? ⟨b1, o1 + t * 4 + 1, none⟩ = some (.int .i64 m.b) ∧ w'.cell? ⟨b1, o1 + t * 4 + 2, none⟩ = some (.int .i64 m.m) ∧ w'.cell? ⟨b1, o1 + t * 4 + 3, none⟩ = some (.int .i64 m.g))) (by kernel_rfl) (K.out _ (Below.refl _ _).drew) (fun hHeld => ?_)
          refine wpAnyH_take (i := 0) (oi := _) (v := ?vz6u1) rfl (by kernel_rfl) (by kernel_rfl) (by kernel_rfl) (fun _ _ _ h => h) (Or.inl ⟨by kernel_rfl, ?hyz6u1⟩) hHeld ?restz6u1
          case hyz6u1 => (intro w hSw; (try dsimp only at hSw); go_simp; first | done | with_reducible rfl)
          try simp only [Act.put, List.getElem_toArray, List.getElem_cons_zero, List.setIfInBounds_toArray, List.set_cons_zero, List.set_cons_succ]
          refine wpAnyH_take (i := 1) (oi := _) (v := ?vz6u2) rfl (by kernel_rfl) (by kernel_rfl) (by kernel_rfl) (fun _ _ _ h => h) (Or.inl ⟨by kernel_rfl, ?hyz6u2⟩) hHeld ?restz6u2
          case hyz6u2 => (intro w hSw; (try dsimp only at hSw); go_simp; first | done | with_reducible rfl)
          try simp only [Act.put, List.getElem_toArray, List.getElem_cons_zero, List.getElem_cons_succ, List.setIfInBounds_toArray, List.set_cons_zero, List.set_cons_succ]
          refine wpAnyH_take (i := 2) (oi := _) (v := ?vz6u3) rfl (by kernel_rfl) (by kernel_rfl) (by kernel_rfl) (fun _ _ _ h => h) (Or.inl ⟨by kernel_rfl, ?hyz6u3⟩) hHeld ?restz6u3
          case hyz6u3 => (intro w hSw; (try dsimp only at hSw); go_simp; first | done | with_reducible rfl)
          try simp only [Act.put, List.getElem_toArray, List.getElem_cons_zero, List.getElem_cons_succ, List.setIfInBounds_toArray, List.set_cons_zero, List.set_cons_succ]
          refine wpAnyH_take (i := 3) (oi := _) (v := ?vz6u4) rfl (by kernel_rfl) (by kernel_rfl) (by kernel_rfl) (fun _ _ _ h => h) (Or.inl ⟨by kernel_rfl, ?hyz6u4⟩) hHeld ?restz6u4
          case hyz6u4 => (intro w hSw; (try dsimp only at hSw); go_simp; first | done | with_reducible rfl)
          try simp only [Act.put, List.getElem_toArray, List.getElem_cons_zero, List.getElem_cons_succ, List.setIfInBounds_toArray, List.set_cons_zero, List.set_cons_succ]
          refine wpAnyH_take (i := 5) (oi := _) (v := ?vz6u5) rfl (by kernel_rfl) (by kernel_rfl) (by kernel_rfl) (fun _ _ _ h => h) (Or.inl ⟨by kernel_rfl, ?hyz6u5⟩) hHeld ?restz6u5
          case hyz6u5 => (intro w hSw; (try dsimp only at hSw); go_simp; first | done | with_reducible rfl)
          try simp only [Act.put, List.getElem_toArray, List.getElem_cons_zero, List.getElem_cons_succ, List.setIfInBounds_toArray, List.set_cons_zero, List.set_cons_succ]
          refine wpAnyH_take (i := 6) (oi := _) (v := ?vz6u6) rfl (by kernel_rfl) (by kernel_rfl) (by kernel_rfl) (fun _ _ _ h => h) (Or.inl ⟨by kernel_rfl, ?hyz6u6⟩) hHeld ?restz6u6
          case hyz6u6 => (intro w hSw; (try dsimp only at hSw); go_simp; first | done | with_reducible rfl)
          try simp only [Act.put, List.getElem_toArray, List.getElem_cons_zero, List.getElem_cons_succ, List.setIfInBounds_toArray, List.set_cons_zero, List.set_cons_succ]
          refine wpAnyH_take (i := 7) (oi := _) (v := ?vz6u7) rfl (by kernel_rfl) (by kernel_rfl) (by kernel_rfl) (fun _ _ _ h => h) (Or.inl ⟨by kernel_rfl, ?hyz6u7⟩) hHeld ?restz6u7
          case hyz6u7 => (intro w hSw; (try dsimp only at hSw); go_simp; first | done | with_reducible rfl)
          try simp only [Act.put, List.getElem_toArray, List.getElem_cons_zero, List.getElem_cons_succ, List.setIfInBounds_toArray, List.set_cons_zero, List.set_cons_succ]
          refine wpAnyH_take (i := 8) (oi := _) (v := ?vz6u8) rfl (by kernel_rfl) (by kernel_rfl) (by kernel_rfl) (fun _ _ _ h => h) (Or.inl ⟨by kernel_rfl, ?hyz6u8⟩) hHeld ?restz6u8
          case hyz6u8 => (intro w hSw; (try dsimp only at hSw); go_simp; first | done | with_reducible rfl)
          try simp only [Act.put, List.getElem_toArray, List.getElem_cons_zero, List.getElem_cons_succ, List.setIfInBounds_toArray, List.set_cons_zero, List.set_cons_succ]
          refine wpAnyH_ready (rs := [4]) (by kernel_rfl) (by simp) ?_
          refine AllReadyH.cons (o := _) rfl (fun K0 hK0 => ?_) AllReadyH.nil
          go_simp
          go_at_call 60
          refine (CZ.out _).mono ?_
          rintro e wz6v9 ⟨rfl, bz6v9⟩
          refine hK0.out _ _ (K.out _ (thenB (Below.refl _ _).drew bz6v9)) (fun hHeld => ?_)
          clear hK0 K0
          try simp only [Act.put, List.getElem_toArray, List.getElem_cons_zero, List.getElem_cons_succ, List.setIfInBounds_toArray, List.set_cons_zero, List.set_cons_succ]
          refine wpAnyH_ready (rs := [9]) (by kernel_rfl) (by simp) ?_
          refine AllReadyH.cons (o := _) rfl (fun K0 hK0 => ?_) AllReadyH.nil
          go_simp
          go_at_call 60
          refine (CM.out _).mono ?_
          rintro e wz6v10 ⟨rfl, bz6v10⟩
          refine hK0.out _ _ (K.out _ (thenB (thenB (Below.refl _ _).drew bz6v9) bz6v10)) (fun hHeld => ?_)
          clear hK0 K0
          try simp only [Act.put, List.getElem_toArray, List.getElem_cons_zero, List.getElem_cons_succ, List.setIfInBounds_toArray, List.set_cons_zero, List.set_cons_succ]
          refine wpAnyH_take (i := 10) (oi := _) (v := ?vz6u11) rfl (by kernel_rfl) (by kernel_rfl) (by kernel_rfl) (fun _ _ _ h => h) (Or.inl ⟨by kernel_rfl, ?hyz6u11⟩) hHeld ?restz6u11
          case hyz6u11 => (intro w hSw; (try dsimp only at hSw); go_simp; first | done | with_reducible rfl)
          try simp only [Act.put, List.getElem_toArray, List.getElem_cons_zero, List.getElem_cons_succ, List.setIfInBounds_toArray, List.set_cons_zero, List.set_cons_succ]
          refine wpAnyH_done (by kernel_rfl) ?_ _
          clear K hHeld
          replace VR := VR.kept (thenB (thenB (Below.refl _ _).drew bz6v9) bz6v10)
          replace B := thenB B (thenB (thenB (Below.refl _ _).drew bz6v9) bz6v10)
          have Sz6 := ((thenB (thenB (Below.refl _ _).drew bz6v9) bz6v10)).size
          clear bz6v9 bz6v10
          obtain ⟨s_VR, f_VR, z_VR⟩ := VR.open
          have Bo := B
          replace B := Hid.mk B
          go_wp2
          go_roundw
          case rel => exact ⟨k + 1, by omega, by omega, by go_num, by rw [HS.out], VR, B.out⟩
          case measure => simp [intOf]; omega
      · have hkn : k = n := by omega
        subst hkn
        rw [ht]
        have HM := Hid.mk hm
        have HT1 := Hid.mk ht
        clear ha ht hm hmo
        obtain ⟨s_VR, f_VR, z_VR⟩ := VR.open
        clear s_VR f_VR z_VR
        have VF := Hid.mk (VR.filled [.int .i64 0, .int .i64 (t : Int), .int .i64 m.c, .int .i64 m.b, .int .i64 m.m, .int .i64 m.g] rfl)
        have BR := belowCells B (show w.heap.size ≤ w.heap.size by (first | omega | (simp; done) | (simp; omega))) 0 [.int .i64 0, .int .i64 (t : Int), .int .i64 m.c, .int .i64 m.b, .int .i64 m.m, .int .i64 m.g]
        have HT := Hid.mk VR.there
        replace BR := Hid.mk BR
        obtain ⟨s_VR, f_VR, z_VR⟩ := VR.open
        go_wp2_with (refine wpList_store_mid rfl 30 _ _ rfl (w.heap.size) 0 #[.int .i64 0, .int .i64 (t : Int), .int .i64 m.c, .int .i64 m.b, .int .i64 m.m, .int .i64 m.g] rfl rfl HT.out (by kernel_rfl) (by kernel_rfl) ?_)
        refine bodyPost_ret (v := .agg #[.int .i64 0, .int .i64 (t : Int), .int .i64 m.c, .int .i64 m.b, .int .i64 m.m, .int .i64 m.g]) (results_row Try.results36 _ _ (w.heap.size) [.int .i64 0, .int .i64 (t : Int), .int .i64 m.c, .int .i64 m.b, .int .i64 m.m, .int .i64 m.g] _ rfl VF.out Try.underlying30 rfl (by kernel_rfl)) rfl ⟨by rw [HT1.out, HM.out], BR.out⟩
  · have e1 : stA xs = 0 := by unfold stA; rw [if_neg h0]
    have e2 : stS xs = zSuite := by unfold stS; rw [if_neg h0]
    have hne : (ssF xs != 0) = true := by simp [h0]
    rw [e1, e2]
    generalize ssF xs = kc at *
    clear h0 e1 e2 hx hc hn
    go_enter Try.func36, Try.ntmps36
    have B := Below.refl w.heap.size w
    replace ha := ha.kept (belowA w (.cells #[.int .i64 0, .int .i64 0, .int .i64 0, .int .i64 0, .int .i64 0, .int .i64 0] 30))
    replace B := thenB B (belowA w (.cells #[.int .i64 0, .int .i64 0, .int .i64 0, .int .i64 0, .int .i64 0, .int .i64 0] 30))
    have VR := V.new w [.int .i64 0, .int .i64 0, .int .i64 0, .int .i64 0, .int .i64 0, .int .i64 0] 30
    obtain ⟨s_VR, f_VR, z_VR⟩ := VR.open
    have Bo := B
    go_wp2_with fail
    refine (CF.out _ ha).mono ?_
    rintro e w1 ⟨rfl, b1⟩
    clear s_VR f_VR z_VR
    have S1 := b1.size
    simp only [World.size_alloc] at S1
    replace VR := VR.kept b1
    replace ha := ha.kept b1
    replace B := thenB B b1
    clear b1
    obtain ⟨s_VR, f_VR, z_VR⟩ := VR.open
    have Bo := B
    clear s_VR f_VR z_VR
    have VF := Hid.mk (VR.filled [.int .i64 kc, .int .i64 0, .int .i64 0, .int .i64 0, .int .i64 0, .int .i64 0] rfl)
    have BR := belowCells B (show w.heap.size ≤ w.heap.size by (first | omega | (simp; done) | (simp; omega))) 0 [.int .i64 kc, .int .i64 0, .int .i64 0, .int .i64 0, .int .i64 0, .int .i64 0]
    have HT := Hid.mk VR.there
    replace BR := Hid.mk BR
    obtain ⟨s_VR, f_VR, z_VR⟩ := VR.open
    go_wp2_with (refine wpList_store_mid rfl 30 _ _ rfl (w.heap.size) 0 #[.int .i64 kc, .int .i64 0, .int .i64 0, .int .i64 0, .int .i64 0, .int .i64 0] rfl rfl HT.out (by kernel_rfl) (by kernel_rfl) ?_)
    refine bodyPost_ret (v := .agg #[.int .i64 kc, .int .i64 0, .int .i64 0, .int .i64 0, .int .i64 0, .int .i64 0]) (results_row Try.results36 _ _ (w.heap.size) [.int .i64 kc, .int .i64 0, .int .i64 0, .int .i64 0, .int .i64 0, .int .i64 0] _ rfl VF.out Try.underlying30 rfl (by kernel_rfl)) rfl ⟨rfl, BR.out⟩

end Go.Proofs.Ythaaompkcomfcaa
