/- A policy's text: numbers, addresses and ranges, as the program tells them. -/
import Derived.Test.YtngkahchhioncaaDoorPolT
import Derived.Test.YtngkahchhioncaaDoorAdr2T
namespace Go.Proofs.YtngkahchhioncaaDoor
open Go.RowKit

theorem decimal_ok (n : Int) (h0 : 0 ≤ n) (h1 : n ≤ 65535) (w : World) (htab : Lib.TabIs Tryd.prog w (Rows.fnExactPolicyTextRow.laid.getD 2 ("", .nil)).1 .u64 Lib.pow10Tab) :
    Calls Tryd.prog 127 #[.int .i64 n] w fun e w' => e = .returned (.string (dcB n)) ∧ Below w.heap.size w w' := by
  have CF := Hid.mk (formatInt_any n (by omega) (by omega) w htab)
  have e1 : Lib.itoa n = Lib.decDigits n.toNat := by unfold Lib.itoa; rw [if_neg (by omega)]
  rw [e1] at CF
  have e2 : (⟨(Lib.decDigits n.toNat).toArray⟩ : ByteArray) = dcB n := by unfold dcB; rfl
  rw [e2] at CF
  clear e1 e2 htab
  generalize dcB n = D at *
  go_enter Tryd.func127, Tryd.ntmps127
  go_wp2_with fail
  refine CF.out.mono ?_
  rintro e w1 ⟨rfl, b1⟩
  go_wp2
  go_ret
  exact ⟨rfl, b1⟩

theorem dotted_ok (a : Int) (w : World) (htab : Lib.TabIs Tryd.prog w (Rows.fnExactPolicyTextRow.laid.getD 2 ("", .nil)).1 .u64 Lib.pow10Tab) :
    Calls Tryd.prog 126 #[.int .i64 a] w fun e w' => e = .returned (.string (adV a)) ∧ Below w.heap.size w w' := by
  have CF := Hid.mk (implAddressText_ok a w htab)
  have q1 := fieldTr
  clear htab
  generalize adV a = A at *
  generalize adC a = C at *
  go_enter Tryd.func126, Tryd.ntmps126
  go_wp2_with fail
  refine CF.out.mono ?_
  rintro e w1 ⟨rfl, b1⟩
  go_wp2
  go_ret
  exact ⟨rfl, b1⟩


set_option maxRecDepth 20000 in
set_option maxHeartbeats 2000000 in
theorem rangeDotted_ok (a b : Int) (w : World) (htab : Lib.TabIs Tryd.prog w (Rows.fnExactPolicyTextRow.laid.getD 2 ("", .nil)).1 .u64 Lib.pow10Tab) :
    Calls Tryd.prog 125 #[.agg #[.int .i64 a, .int .i64 b], .func (.func 126) #[] #[]] w fun e w' => e = .returned (.string (enB a b)) ∧ Below w.heap.size w w' := by
  have hT := Hid.mk (Lib.tabBelow_of_tabIs htab)
  have CA := Hid.mk (fun w h => dotted_ok a w h)
  have CB := Hid.mk (fun w h => dotted_ok b w h)
  have s1 := adV_size a
  have s2 := adV_size b
  clear htab
  unfold enB
  generalize adV a = A at *
  generalize adV b = C at *
  have z1 : ¬ 9223372036854775807 < A.size + 1 := by omega
  have z2 : ¬ 9223372036854775807 < A.size + 1 + C.size := by omega
  go_enter Tryd.func125, Tryd.ntmps125
  have B := Below.refl w.heap.size w
  replace B := thenB B (belowA w (.cells #[.int .i64 a, .int .i64 b] 30))
  have VX := V.new w [.int .i64 a, .int .i64 b] 30
  obtain ⟨s_VX, f_VX, z_VX⟩ := VX.open
  have Bo := B
  clear s_VX f_VX z_VX
  have K : ∀ w' : World, Below (w.alloc (.cells #[.int .i64 a, .int .i64 b] 30)).heap.size (w.alloc (.cells #[.int .i64 a, .int .i64 b] 30)) w' → (w'.cell? ⟨w.heap.size, 0, none⟩ = some (.int .i64 a) ∧ w'.cell? ⟨w.heap.size, 1, none⟩ = some (.int .i64 b)) := fun w' h => ⟨(VX.kept h).2.1 0 (by simp), (VX.kept h).2.1 1 (by simp)⟩
  have K := Hid.mk K
  go_wp2_with fail
  refine wp_region_held_drew (S := (fun w' => w'.cell? ⟨w.heap.size, 0, none⟩ = some (.int .i64 a) ∧ w'.cell? ⟨w.heap.size, 1, none⟩ = some (.int .i64 b))) (by kernel_rfl) (K.out _ (Below.refl _ _).drew) (fun hHeld => ?_)
  refine wpAnyH_take (i := 0) (oi := _) (v := ?vz1u1) rfl (by kernel_rfl) (by kernel_rfl) (by kernel_rfl) (fun _ _ _ h => h) (Or.inl ⟨by rfl, ?hyz1u1⟩) hHeld ?restz1u1
  case hyz1u1 => (intro w hSw; (try dsimp only at hSw); go_simp; first | done | with_reducible rfl)
  try simp only [Act.put, List.getElem_toArray, List.getElem_cons_zero, List.setIfInBounds_toArray, List.set_cons_zero, List.set_cons_succ]
  refine wpAnyH_take (i := 1) (oi := _) (v := ?vz1u2) rfl (by kernel_rfl) (by kernel_rfl) (by kernel_rfl) (fun _ _ _ h => h) (Or.inl ⟨by rfl, ?hyz1u2⟩) hHeld ?restz1u2
  case hyz1u2 => (intro w hSw; (try dsimp only at hSw); go_simp; first | done | with_reducible rfl)
  try simp only [Act.put, List.getElem_toArray, List.getElem_cons_zero, List.getElem_cons_succ, List.setIfInBounds_toArray, List.set_cons_zero, List.set_cons_succ]
  refine wpAnyH_take (i := 2) (oi := _) (v := ?vz1u3) rfl (by kernel_rfl) (by kernel_rfl) (by kernel_rfl) (fun _ _ _ h => h) (Or.inl ⟨by rfl, ?hyz1u3⟩) hHeld ?restz1u3
  case hyz1u3 => (intro w hSw; (try dsimp only at hSw); go_simp; first | done | with_reducible rfl)
  try simp only [Act.put, List.getElem_toArray, List.getElem_cons_zero, List.getElem_cons_succ, List.setIfInBounds_toArray, List.set_cons_zero, List.set_cons_succ]
  refine wpAnyH_take (i := 5) (oi := _) (v := ?vz1u4) rfl (by kernel_rfl) (by kernel_rfl) (by kernel_rfl) (fun _ _ _ h => h) (Or.inl ⟨by rfl, ?hyz1u4⟩) hHeld ?restz1u4
  case hyz1u4 => (intro w hSw; (try dsimp only at hSw); go_simp; first | done | with_reducible rfl)
  try simp only [Act.put, List.getElem_toArray, List.getElem_cons_zero, List.getElem_cons_succ, List.setIfInBounds_toArray, List.set_cons_zero, List.set_cons_succ]
  refine wpAnyH_take (i := 6) (oi := _) (v := ?vz1u5) rfl (by kernel_rfl) (by kernel_rfl) (by kernel_rfl) (fun _ _ _ h => h) (Or.inl ⟨by rfl, ?hyz1u5⟩) hHeld ?restz1u5
  case hyz1u5 => (intro w hSw; (try dsimp only at hSw); go_simp; first | done | with_reducible rfl)
  try simp only [Act.put, List.getElem_toArray, List.getElem_cons_zero, List.getElem_cons_succ, List.setIfInBounds_toArray, List.set_cons_zero, List.set_cons_succ]
  refine wpAnyH_take (i := 7) (oi := _) (v := ?vz1u6) rfl (by kernel_rfl) (by kernel_rfl) (by kernel_rfl) (fun _ _ _ h => h) (Or.inl ⟨by rfl, ?hyz1u6⟩) hHeld ?restz1u6
  case hyz1u6 => (intro w hSw; (try dsimp only at hSw); go_simp; first | done | with_reducible rfl)
  try simp only [Act.put, List.getElem_toArray, List.getElem_cons_zero, List.getElem_cons_succ, List.setIfInBounds_toArray, List.set_cons_zero, List.set_cons_succ]
  refine wpAnyH_ready (rs := [3]) (by kernel_rfl) (by simp) ?_
  refine AllReadyH.cons (o := _) rfl (fun K0 hK0 => ?_) AllReadyH.nil
  go_simp
  go_at_call 126
  refine (CA.out _ (hT.out _ (thenB B (Below.refl _ _).drew))).mono ?_
  rintro e wz1v7 ⟨rfl, bz1v7⟩
  refine hK0.out _ _ (K.out _ (thenB (Below.refl _ _).drew bz1v7)) (fun hHeld => ?_)
  clear hK0 K0
  try simp only [Act.put, List.getElem_toArray, List.getElem_cons_zero, List.getElem_cons_succ, List.setIfInBounds_toArray, List.set_cons_zero, List.set_cons_succ]
  refine wpAnyH_take (i := 4) (oi := _) (v := ?vz1u8) rfl (by kernel_rfl) (by kernel_rfl) (by kernel_rfl) (fun _ _ _ h => h) (Or.inl ⟨by rfl, ?hyz1u8⟩) hHeld ?restz1u8
  case hyz1u8 => (intro w hSw; (try dsimp only at hSw); go_simp; first | done | with_reducible rfl)
  try simp only [Act.put, List.getElem_toArray, List.getElem_cons_zero, List.getElem_cons_succ, List.setIfInBounds_toArray, List.set_cons_zero, List.set_cons_succ]
  refine wpAnyH_ready (rs := [8]) (by kernel_rfl) (by simp) ?_
  refine AllReadyH.cons (o := _) rfl (fun K0 hK0 => ?_) AllReadyH.nil
  go_simp
  go_at_call 126
  refine (CB.out _ (hT.out _ (thenB B (thenB (Below.refl _ _).drew bz1v7)))).mono ?_
  rintro e wz1v9 ⟨rfl, bz1v9⟩
  refine hK0.out _ _ (K.out _ (thenB (thenB (Below.refl _ _).drew bz1v7) bz1v9)) (fun hHeld => ?_)
  clear hK0 K0
  try simp only [Act.put, List.getElem_toArray, List.getElem_cons_zero, List.getElem_cons_succ, List.setIfInBounds_toArray, List.set_cons_zero, List.set_cons_succ]
  refine wpAnyH_take (i := 9) (oi := _) (v := ?vz1u10) rfl (by kernel_rfl) (by kernel_rfl) (by kernel_rfl) (fun _ _ _ h => h) (Or.inl ⟨by rfl, ?hyz1u10⟩) hHeld ?restz1u10
  case hyz1u10 => (intro w hSw; (try dsimp only at hSw); go_simp; first | done | with_reducible rfl)
  try simp only [Act.put, List.getElem_toArray, List.getElem_cons_zero, List.getElem_cons_succ, List.setIfInBounds_toArray, List.set_cons_zero, List.set_cons_succ]
  refine wpAnyH_take (i := 10) (oi := _) (v := ?vz1u11) rfl (by kernel_rfl) (by kernel_rfl) (by kernel_rfl) (fun _ _ _ h => h) (Or.inl ⟨by rfl, ?hyz1u11⟩) hHeld ?restz1u11
  case hyz1u11 => (intro w hSw; (try dsimp only at hSw); go_simp; first | done | with_reducible rfl)
  try simp only [Act.put, List.getElem_toArray, List.getElem_cons_zero, List.getElem_cons_succ, List.setIfInBounds_toArray, List.set_cons_zero, List.set_cons_succ]
  refine wpAnyH_done (by kernel_rfl) ?_ _
  clear K hHeld
  replace VX := VX.kept (thenB (thenB (Below.refl _ _).drew bz1v7) bz1v9)
  replace B := thenB B (thenB (thenB (Below.refl _ _).drew bz1v7) bz1v9)
  have Sz1 := ((thenB (thenB (Below.refl _ _).drew bz1v7) bz1v9)).size
  simp only [World.size_alloc] at Sz1
  clear bz1v7 bz1v9
  obtain ⟨s_VX, f_VX, z_VX⟩ := VX.open
  have Bo := B
  go_wp2
  go_ret
  exact ⟨rfl, B⟩

set_option maxRecDepth 20000 in
set_option maxHeartbeats 2000000 in
theorem rangeDecimal_ok (a b : Int) (ha0 : 0 ≤ a) (ha1 : a ≤ 65535) (hb0 : 0 ≤ b) (hb1 : b ≤ 65535) (w : World) (htab : Lib.TabIs Tryd.prog w (Rows.fnExactPolicyTextRow.laid.getD 2 ("", .nil)).1 .u64 Lib.pow10Tab) :
    Calls Tryd.prog 125 #[.agg #[.int .i64 a, .int .i64 b], .func (.func 127) #[] #[]] w fun e w' => e = .returned (.string (dcB a ++ ⟨#[45]⟩ ++ dcB b)) ∧ Below w.heap.size w w' := by
  have hT := Hid.mk (Lib.tabBelow_of_tabIs htab)
  have CA := Hid.mk (fun w h => decimal_ok a ha0 ha1 w h)
  have CB := Hid.mk (fun w h => decimal_ok b hb0 hb1 w h)
  have s1 := dcB_size ha0 ha1
  have s2 := dcB_size hb0 hb1
  clear htab
  skip
  generalize dcB a = A at *
  generalize dcB b = C at *
  have z1 : ¬ 9223372036854775807 < A.size + 1 := by omega
  have z2 : ¬ 9223372036854775807 < A.size + 1 + C.size := by omega
  go_enter Tryd.func125, Tryd.ntmps125
  have B := Below.refl w.heap.size w
  replace B := thenB B (belowA w (.cells #[.int .i64 a, .int .i64 b] 30))
  have VX := V.new w [.int .i64 a, .int .i64 b] 30
  obtain ⟨s_VX, f_VX, z_VX⟩ := VX.open
  have Bo := B
  clear s_VX f_VX z_VX
  have K : ∀ w' : World, Below (w.alloc (.cells #[.int .i64 a, .int .i64 b] 30)).heap.size (w.alloc (.cells #[.int .i64 a, .int .i64 b] 30)) w' → (w'.cell? ⟨w.heap.size, 0, none⟩ = some (.int .i64 a) ∧ w'.cell? ⟨w.heap.size, 1, none⟩ = some (.int .i64 b)) := fun w' h => ⟨(VX.kept h).2.1 0 (by simp), (VX.kept h).2.1 1 (by simp)⟩
  have K := Hid.mk K
  go_wp2_with fail
  refine wp_region_held_drew (S := (fun w' => w'.cell? ⟨w.heap.size, 0, none⟩ = some (.int .i64 a) ∧ w'.cell? ⟨w.heap.size, 1, none⟩ = some (.int .i64 b))) (by kernel_rfl) (K.out _ (Below.refl _ _).drew) (fun hHeld => ?_)
  refine wpAnyH_take (i := 0) (oi := _) (v := ?vz6u1) rfl (by kernel_rfl) (by kernel_rfl) (by kernel_rfl) (fun _ _ _ h => h) (Or.inl ⟨by rfl, ?hyz6u1⟩) hHeld ?restz6u1
  case hyz6u1 => (intro w hSw; (try dsimp only at hSw); go_simp; first | done | with_reducible rfl)
  try simp only [Act.put, List.getElem_toArray, List.getElem_cons_zero, List.setIfInBounds_toArray, List.set_cons_zero, List.set_cons_succ]
  refine wpAnyH_take (i := 1) (oi := _) (v := ?vz6u2) rfl (by kernel_rfl) (by kernel_rfl) (by kernel_rfl) (fun _ _ _ h => h) (Or.inl ⟨by rfl, ?hyz6u2⟩) hHeld ?restz6u2
  case hyz6u2 => (intro w hSw; (try dsimp only at hSw); go_simp; first | done | with_reducible rfl)
  try simp only [Act.put, List.getElem_toArray, List.getElem_cons_zero, List.getElem_cons_succ, List.setIfInBounds_toArray, List.set_cons_zero, List.set_cons_succ]
  refine wpAnyH_take (i := 2) (oi := _) (v := ?vz6u3) rfl (by kernel_rfl) (by kernel_rfl) (by kernel_rfl) (fun _ _ _ h => h) (Or.inl ⟨by rfl, ?hyz6u3⟩) hHeld ?restz6u3
  case hyz6u3 => (intro w hSw; (try dsimp only at hSw); go_simp; first | done | with_reducible rfl)
  try simp only [Act.put, List.getElem_toArray, List.getElem_cons_zero, List.getElem_cons_succ, List.setIfInBounds_toArray, List.set_cons_zero, List.set_cons_succ]
  refine wpAnyH_take (i := 5) (oi := _) (v := ?vz6u4) rfl (by kernel_rfl) (by kernel_rfl) (by kernel_rfl) (fun _ _ _ h => h) (Or.inl ⟨by rfl, ?hyz6u4⟩) hHeld ?restz6u4
  case hyz6u4 => (intro w hSw; (try dsimp only at hSw); go_simp; first | done | with_reducible rfl)
  try simp only [Act.put, List.getElem_toArray, List.getElem_cons_zero, List.getElem_cons_succ, List.setIfInBounds_toArray, List.set_cons_zero, List.set_cons_succ]
  refine wpAnyH_take (i := 6) (oi := _) (v := ?vz6u5) rfl (by kernel_rfl) (by kernel_rfl) (by kernel_rfl) (fun _ _ _ h => h) (Or.inl ⟨by rfl, ?hyz6u5⟩) hHeld ?restz6u5
  case hyz6u5 => (intro w hSw; (try dsimp only at hSw); go_simp; first | done | with_reducible rfl)
  try simp only [Act.put, List.getElem_toArray, List.getElem_cons_zero, List.getElem_cons_succ, List.setIfInBounds_toArray, List.set_cons_zero, List.set_cons_succ]
  refine wpAnyH_take (i := 7) (oi := _) (v := ?vz6u6) rfl (by kernel_rfl) (by kernel_rfl) (by kernel_rfl) (fun _ _ _ h => h) (Or.inl ⟨by rfl, ?hyz6u6⟩) hHeld ?restz6u6
  case hyz6u6 => (intro w hSw; (try dsimp only at hSw); go_simp; first | done | with_reducible rfl)
  try simp only [Act.put, List.getElem_toArray, List.getElem_cons_zero, List.getElem_cons_succ, List.setIfInBounds_toArray, List.set_cons_zero, List.set_cons_succ]
  refine wpAnyH_ready (rs := [3]) (by kernel_rfl) (by simp) ?_
  refine AllReadyH.cons (o := _) rfl (fun K0 hK0 => ?_) AllReadyH.nil
  go_simp
  go_at_call 127
  refine (CA.out _ (hT.out _ (thenB B (Below.refl _ _).drew))).mono ?_
  rintro e wz6v7 ⟨rfl, bz6v7⟩
  refine hK0.out _ _ (K.out _ (thenB (Below.refl _ _).drew bz6v7)) (fun hHeld => ?_)
  clear hK0 K0
  try simp only [Act.put, List.getElem_toArray, List.getElem_cons_zero, List.getElem_cons_succ, List.setIfInBounds_toArray, List.set_cons_zero, List.set_cons_succ]
  refine wpAnyH_take (i := 4) (oi := _) (v := ?vz6u8) rfl (by kernel_rfl) (by kernel_rfl) (by kernel_rfl) (fun _ _ _ h => h) (Or.inl ⟨by rfl, ?hyz6u8⟩) hHeld ?restz6u8
  case hyz6u8 => (intro w hSw; (try dsimp only at hSw); go_simp; first | done | with_reducible rfl)
  try simp only [Act.put, List.getElem_toArray, List.getElem_cons_zero, List.getElem_cons_succ, List.setIfInBounds_toArray, List.set_cons_zero, List.set_cons_succ]
  refine wpAnyH_ready (rs := [8]) (by kernel_rfl) (by simp) ?_
  refine AllReadyH.cons (o := _) rfl (fun K0 hK0 => ?_) AllReadyH.nil
  go_simp
  go_at_call 127
  refine (CB.out _ (hT.out _ (thenB B (thenB (Below.refl _ _).drew bz6v7)))).mono ?_
  rintro e wz6v9 ⟨rfl, bz6v9⟩
  refine hK0.out _ _ (K.out _ (thenB (thenB (Below.refl _ _).drew bz6v7) bz6v9)) (fun hHeld => ?_)
  clear hK0 K0
  try simp only [Act.put, List.getElem_toArray, List.getElem_cons_zero, List.getElem_cons_succ, List.setIfInBounds_toArray, List.set_cons_zero, List.set_cons_succ]
  refine wpAnyH_take (i := 9) (oi := _) (v := ?vz6u10) rfl (by kernel_rfl) (by kernel_rfl) (by kernel_rfl) (fun _ _ _ h => h) (Or.inl ⟨by rfl, ?hyz6u10⟩) hHeld ?restz6u10
  case hyz6u10 => (intro w hSw; (try dsimp only at hSw); go_simp; first | done | with_reducible rfl)
  try simp only [Act.put, List.getElem_toArray, List.getElem_cons_zero, List.getElem_cons_succ, List.setIfInBounds_toArray, List.set_cons_zero, List.set_cons_succ]
  refine wpAnyH_take (i := 10) (oi := _) (v := ?vz6u11) rfl (by kernel_rfl) (by kernel_rfl) (by kernel_rfl) (fun _ _ _ h => h) (Or.inl ⟨by rfl, ?hyz6u11⟩) hHeld ?restz6u11
  case hyz6u11 => (intro w hSw; (try dsimp only at hSw); go_simp; first | done | with_reducible rfl)
  try simp only [Act.put, List.getElem_toArray, List.getElem_cons_zero, List.getElem_cons_succ, List.setIfInBounds_toArray, List.set_cons_zero, List.set_cons_succ]
  refine wpAnyH_done (by kernel_rfl) ?_ _
  clear K hHeld
  replace VX := VX.kept (thenB (thenB (Below.refl _ _).drew bz6v7) bz6v9)
  replace B := thenB B (thenB (thenB (Below.refl _ _).drew bz6v7) bz6v9)
  have Sz6 := ((thenB (thenB (Below.refl _ _).drew bz6v7) bz6v9)).size
  simp only [World.size_alloc] at Sz6
  clear bz6v7 bz6v9
  obtain ⟨s_VX, f_VX, z_VX⟩ := VX.open
  have Bo := B
  go_wp2
  go_ret
  exact ⟨rfl, B⟩

end Go.Proofs.YtngkahchhioncaaDoor
