/- A book of terms: the answer. -/
import Derived.Test.YthjaehcfakjemaaDoorTmI
namespace Go.Proofs.YthjaehcfakjemaaDoor
open Go.RowKit

theorem build_tr0' (k : Int) (w : World) : (Instr.build 28 #[(0, .int .i64 k)]).run Tryd.prog w = .ok (.agg #[.int .i64 k, .int .i64 0, .slice none 0 0]) w := run_build w 28 _ _ (by kernel_rfl)

theorem build_tr12 (k : Int) (c : Option Addr) (n d : Nat) (w : World) : (Instr.build 28 #[(1, .int .i64 k), (2, .slice c n d)]).run Tryd.prog w = .ok (.agg #[.int .i64 0, .int .i64 k, .slice c n d]) w := run_build w 28 _ _ (by kernel_rfl)

set_option maxRecDepth 20000 in
set_option maxHeartbeats 4000000 in
theorem answer_no (p g : Nat) (c : Option Addr) (n d : Nat) (k : Int) (hk : k ≠ 0) (w : World) (VP : V w p [.slice c n d, .map (some g)]) :
    Calls Tryd.prog 24 #[.pointer (some ⟨p, 0, none⟩), .agg #[.int .i64 k, .int .i64 0]] w fun e w' => e = .returned (.agg #[.int .i64 k, .int .i64 0, .slice none 0 0]) ∧ Below w.heap.size w w' := by
  have q1 := build_tr0'
  have h1 : (k != 0) = true := by simp [hk]
  clear hk
  go_enter Tryd.func24, Tryd.ntmps24
  have B := Below.refl w.heap.size w
  replace VP := VP.kept (belowA w (.cells #[.int .i64 k, .int .i64 0] 36))
  replace B := thenB B (belowA w (.cells #[.int .i64 k, .int .i64 0] 36))
  have VX := V.new w [.int .i64 k, .int .i64 0] 36
  replace VP := VP.kept (belowA (w.alloc (.cells #[.int .i64 k, .int .i64 0] 36)) (.cells #[.int .i64 0, .int .i64 0, .slice none 0 0] 28))
  replace VX := VX.kept (belowA (w.alloc (.cells #[.int .i64 k, .int .i64 0] 36)) (.cells #[.int .i64 0, .int .i64 0, .slice none 0 0] 28))
  replace B := thenB B (belowA (w.alloc (.cells #[.int .i64 k, .int .i64 0] 36)) (.cells #[.int .i64 0, .int .i64 0, .slice none 0 0] 28))
  have VR : V ((w.alloc (.cells #[.int .i64 k, .int .i64 0] 36)).alloc (.cells #[.int .i64 0, .int .i64 0, .slice none 0 0] 28)) (w.heap.size + 1) [.int .i64 0, .int .i64 0, .slice none 0 0] := V.newAt _ _ _ _ (by simp)
  obtain ⟨s_VP, f_VP, z_VP⟩ := VP.open
  obtain ⟨s_VX, f_VX, z_VX⟩ := VX.open
  obtain ⟨s_VR, f_VR, z_VR⟩ := VR.open
  have Bo := B
  clear s_VP f_VP z_VP s_VX f_VX z_VX s_VR f_VR z_VR
  have VF := Hid.mk (VR.filled [.int .i64 k, .int .i64 0, .slice none 0 0] rfl)
  have HT := Hid.mk VR.there
  have BR := belowCells B (show w.heap.size ≤ w.heap.size + 1 by (first | omega | (simp; done) | (simp; omega))) 0 [.int .i64 k, .int .i64 0, .slice none 0 0]
  replace BR := Hid.mk BR
  obtain ⟨s_VP, f_VP, z_VP⟩ := VP.open
  obtain ⟨s_VX, f_VX, z_VX⟩ := VX.open
  obtain ⟨s_VR, f_VR, z_VR⟩ := VR.open
  go_wp2_with (refine wpList_store_mid rfl 28 _ _ rfl (w.heap.size + 1) 0 #[.int .i64 k, .int .i64 0, .slice none 0 0] rfl rfl HT.out (by kernel_rfl) (by kernel_rfl) ?_)
  refine bodyPost_ret (v := .agg #[.int .i64 k, .int .i64 0, .slice none 0 0]) (results_row Tryd.results24 _ _ (w.heap.size + 1) [.int .i64 k, .int .i64 0, .slice none 0 0] _ rfl VF.out Tryd.underlying28 rfl (by kernel_rfl)) rfl ⟨rfl, BR.out⟩

set_option maxRecDepth 20000 in
set_option maxHeartbeats 4000000 in
theorem answer_yes (p g : Nat) (c : Option Addr) (n d : Nat) (v : Int) (w : World) (VP : V w p [.slice c n d, .map (some g)]) :
    Calls Tryd.prog 24 #[.pointer (some ⟨p, 0, none⟩), .agg #[.int .i64 0, .int .i64 v]] w fun e w' => e = .returned (.agg #[.int .i64 0, .int .i64 v, .slice c n d]) ∧ Below w.heap.size w w' := by
  have q2 := build_tr12
  have hpw := VP.1
  go_enter Tryd.func24, Tryd.ntmps24
  have B := Below.refl w.heap.size w
  replace VP := VP.kept (belowA w (.cells #[.int .i64 0, .int .i64 v] 36))
  replace B := thenB B (belowA w (.cells #[.int .i64 0, .int .i64 v] 36))
  have VX := V.new w [.int .i64 0, .int .i64 v] 36
  replace VP := VP.kept (belowA (w.alloc (.cells #[.int .i64 0, .int .i64 v] 36)) (.cells #[.int .i64 0, .int .i64 0, .slice none 0 0] 28))
  replace VX := VX.kept (belowA (w.alloc (.cells #[.int .i64 0, .int .i64 v] 36)) (.cells #[.int .i64 0, .int .i64 0, .slice none 0 0] 28))
  replace B := thenB B (belowA (w.alloc (.cells #[.int .i64 0, .int .i64 v] 36)) (.cells #[.int .i64 0, .int .i64 0, .slice none 0 0] 28))
  have VR : V ((w.alloc (.cells #[.int .i64 0, .int .i64 v] 36)).alloc (.cells #[.int .i64 0, .int .i64 0, .slice none 0 0] 28)) (w.heap.size + 1) [.int .i64 0, .int .i64 0, .slice none 0 0] := V.newAt _ _ _ _ (by simp)
  obtain ⟨s_VP, f_VP, z_VP⟩ := VP.open
  obtain ⟨s_VX, f_VX, z_VX⟩ := VX.open
  obtain ⟨s_VR, f_VR, z_VR⟩ := VR.open
  have Bo := B
  clear s_VP f_VP z_VP s_VX f_VX z_VX s_VR f_VR z_VR
  have K : ∀ w' : World, Below ((w.alloc (.cells #[.int .i64 0, .int .i64 v] 36)).alloc (.cells #[.int .i64 0, .int .i64 0, .slice none 0 0] 28)).heap.size ((w.alloc (.cells #[.int .i64 0, .int .i64 v] 36)).alloc (.cells #[.int .i64 0, .int .i64 0, .slice none 0 0] 28)) w' → (w'.cell? ⟨w.heap.size, 0, none⟩ = some (.int .i64 0) ∧ w'.cell? ⟨w.heap.size, 1, none⟩ = some (.int .i64 v) ∧ w'.cell? ⟨p, 0, none⟩ = some (.slice c n d) ∧ w'.cell? ⟨p, 1, none⟩ = some (.map (some g))) := fun w' h => ⟨(VX.kept h).2.1 0 (by simp), (VX.kept h).2.1 1 (by simp), (VP.kept h).2.1 0 (by simp), (VP.kept h).2.1 1 (by simp)⟩
  have K := Hid.mk K
  have bd : Below ((w.alloc (.cells #[.int .i64 0, .int .i64 v] 36)).alloc (.cells #[.int .i64 0, .int .i64 0, .slice none 0 0] 28)).heap.size ((w.alloc (.cells #[.int .i64 0, .int .i64 v] 36)).alloc (.cells #[.int .i64 0, .int .i64 0, .slice none 0 0] 28)) ((w.alloc (.cells #[.int .i64 0, .int .i64 v] 36)).alloc (.cells #[.int .i64 0, .int .i64 0, .slice none 0 0] 28)).drew := (Below.refl _ _).drew
  have VD := VR.kept bd
  have HT := Hid.mk VD.there
  have VF := VD.filled [.int .i64 0, .int .i64 v, .slice c n d] rfl
  have A_VX := (VX.kept bd).apart (B := w.heap.size + 1) (by first | omega | (simp; omega)) 0 [.int .i64 0, .int .i64 v, .slice c n d]
  have A_VP := (VP.kept bd).apart (B := w.heap.size + 1) (by first | omega | (simp; omega)) 0 [.int .i64 0, .int .i64 v, .slice c n d]
  have BR := belowCells (thenB B bd) (show w.heap.size ≤ w.heap.size + 1 by (first | omega | (simp; done) | (simp; omega))) 0 [.int .i64 0, .int .i64 v, .slice c n d]
  obtain ⟨w6, hw6⟩ : ∃ w6, (World.drew ((w.alloc (.cells #[.int .i64 0, .int .i64 v] 36)).alloc (.cells #[.int .i64 0, .int .i64 0, .slice none 0 0] 28))).setCells (w.heap.size + 1) 0 [.int .i64 0, .int .i64 v, .slice c n d] = w6 := ⟨_, rfl⟩
  rw [hw6] at VF A_VX A_VP BR
  replace hw6 := Hid.mk hw6
  replace VF := Hid.mk VF
  replace BR := Hid.mk BR
  have KA : w6.cell? ⟨w.heap.size, 0, none⟩ = some (.int .i64 0) ∧ w6.cell? ⟨w.heap.size, 1, none⟩ = some (.int .i64 v) ∧ w6.cell? ⟨p, 0, none⟩ = some (.slice c n d) ∧ w6.cell? ⟨p, 1, none⟩ = some (.map (some g)) := ⟨A_VX.2.1 0 (by simp), A_VX.2.1 1 (by simp), A_VP.2.1 0 (by simp), A_VP.2.1 1 (by simp)⟩
  replace KA := Hid.mk KA
  clear A_VX A_VP bd VD
  obtain ⟨s_VP, f_VP, z_VP⟩ := VP.open
  obtain ⟨s_VX, f_VX, z_VX⟩ := VX.open
  obtain ⟨s_VR, f_VR, z_VR⟩ := VR.open
  go_wp2_with fail
  refine wp_region_held_drew (S := (fun w' => w'.cell? ⟨w.heap.size, 0, none⟩ = some (.int .i64 0) ∧ w'.cell? ⟨w.heap.size, 1, none⟩ = some (.int .i64 v) ∧ w'.cell? ⟨p, 0, none⟩ = some (.slice c n d) ∧ w'.cell? ⟨p, 1, none⟩ = some (.map (some g)))) (by kernel_rfl) (K.out _ (Below.refl _ _).drew) (fun hHeld => ?_)
  clear s_VP f_VP z_VP s_VX f_VX z_VX s_VR f_VR z_VR
  refine wpAnyH_take (i := 0) (oi := _) (v := ?vy21v0) rfl (by kernel_rfl) (by kernel_rfl) (by kernel_rfl) (fun _ _ _ h => h) (Or.inl ⟨by rfl, ?hyy21v0⟩) hHeld ?resty21v0
  case hyy21v0 => (intro w hSw; (try dsimp only at hSw); go_simp; first | done | with_reducible rfl)
  try simp only [Act.put, List.getElem_toArray, List.getElem_cons_zero, List.setIfInBounds_toArray, List.set_cons_zero, List.set_cons_succ]
  refine wpAnyH_take (i := 1) (oi := _) (v := ?vy21v1) rfl (by kernel_rfl) (by kernel_rfl) (by kernel_rfl) (fun _ _ _ h => h) (Or.inl ⟨by rfl, ?hyy21v1⟩) hHeld ?resty21v1
  case hyy21v1 => (intro w hSw; (try dsimp only at hSw); go_simp; first | done | with_reducible rfl)
  try simp only [Act.put, List.getElem_toArray, List.getElem_cons_zero, List.getElem_cons_succ, List.setIfInBounds_toArray, List.set_cons_zero, List.set_cons_succ]
  refine wpAnyH_take (i := 2) (oi := _) (v := ?vy21v2) rfl (by kernel_rfl) (by kernel_rfl) (by kernel_rfl) (fun _ _ _ h => h) (Or.inl ⟨by rfl, ?hyy21v2⟩) hHeld ?resty21v2
  case hyy21v2 => (intro w hSw; (try dsimp only at hSw); go_simp; first | done | with_reducible rfl)
  try simp only [Act.put, List.getElem_toArray, List.getElem_cons_zero, List.getElem_cons_succ, List.setIfInBounds_toArray, List.set_cons_zero, List.set_cons_succ]
  refine wpAnyH_take (i := 3) (oi := _) (v := ?vy21v3) rfl (by kernel_rfl) (by kernel_rfl) (by kernel_rfl) (fun _ _ _ h => h) (Or.inl ⟨by rfl, ?hyy21v3⟩) hHeld ?resty21v3
  case hyy21v3 => (intro w hSw; (try dsimp only at hSw); go_simp; first | done | with_reducible rfl)
  try simp only [Act.put, List.getElem_toArray, List.getElem_cons_zero, List.getElem_cons_succ, List.setIfInBounds_toArray, List.set_cons_zero, List.set_cons_succ]
  refine wpAnyH_take (i := 4) (oi := _) (v := ?vy21v4) rfl (by kernel_rfl) (by kernel_rfl) (by kernel_rfl) (fun _ _ _ h => h) (Or.inl ⟨by rfl, ?hyy21v4⟩) hHeld ?resty21v4
  case hyy21v4 => (intro w hSw; (try dsimp only at hSw); go_simp; first | done | with_reducible rfl)
  try simp only [Act.put, List.getElem_toArray, List.getElem_cons_zero, List.getElem_cons_succ, List.setIfInBounds_toArray, List.set_cons_zero, List.set_cons_succ]
  refine wpAnyH_take (i := 5) (oi := _) (v := ?vy21v5) rfl (by kernel_rfl) (by kernel_rfl) (by kernel_rfl) (fun _ _ _ h => h) (Or.inl ⟨by rfl, ?hyy21v5⟩) hHeld ?resty21v5
  case hyy21v5 => (intro w hSw; (try dsimp only at hSw); go_simp; first | done | with_reducible rfl)
  try simp only [Act.put, List.getElem_toArray, List.getElem_cons_zero, List.getElem_cons_succ, List.setIfInBounds_toArray, List.set_cons_zero, List.set_cons_succ]
  refine wpAnyH_take (i := 6) (oi := _) (v := ?vy21v6) rfl (by kernel_rfl) (by kernel_rfl) (by kernel_rfl) (fun _ _ _ h => h) (Or.inl ⟨by rfl, ?hyy21v6⟩) hHeld ?resty21v6
  case hyy21v6 => (intro w hSw; (try dsimp only at hSw); go_simp; first | done | with_reducible rfl)
  try simp only [Act.put, List.getElem_toArray, List.getElem_cons_zero, List.getElem_cons_succ, List.setIfInBounds_toArray, List.set_cons_zero, List.set_cons_succ]
  refine wpAnyH_ready (rs := [7]) (by kernel_rfl) (by simp) ?_
  refine AllReadyH.cons (o := _) rfl (fun K0 hK0 => ?_) AllReadyH.nil
  rw [if_pos (by rfl)]
  refine wp_stroke w6 28 _ _ rfl (w.heap.size + 1) 0 #[.int .i64 0, .int .i64 v, .slice c n d] rfl rfl HT.out (by kernel_rfl) (by kernel_rfl) hw6.out ?_
  refine hK0.out _ _ KA.out (fun hHeld => ?_)
  clear hK0 K0
  refine wpAnyH_done (by kernel_rfl) ?_ _
  go_wp2
  refine bodyPost_ret (v := .agg #[.int .i64 0, .int .i64 v, .slice c n d]) (results_row Tryd.results24 _ _ (w.heap.size + 1) [.int .i64 0, .int .i64 v, .slice c n d] _ rfl VF.out Tryd.underlying28 rfl (by kernel_rfl)) rfl ⟨rfl, BR.out⟩

end Go.Proofs.YthjaehcfakjemaaDoor
