/- The program's maker of terms: made, told. -/
import Derived.Test.YthkmoabkeblbjaaKzB
import Derived.Test.YthkmoabkeblbjaaKyE
namespace Go.Proofs.Ythkmoabkeblbjaa
open Go.RowKit

theorem build_mk (p : Nat) (w : World) : (Instr.build 92 #[(0, .pointer (some ⟨p, 0, none⟩))]).run Try.prog w = .ok (.agg #[.pointer (some ⟨p, 0, none⟩), .int .i64 0]) w := run_build w 92 _ _ (by kernel_rfl)

set_option maxRecDepth 20000 in
set_option maxHeartbeats 4000000 in
theorem answer_noV (p g : Nat) (c : Option Addr) (n d : Nat) (k v : Int) (hk : k ≠ 0) (w : World) (VP : V w p [.slice c n d, .map (some g)]) :
    Calls Try.prog 79 #[.pointer (some ⟨p, 0, none⟩), .agg #[.int .i64 k, .int .i64 v]] w fun e w' => e = .returned (.agg #[.int .i64 k, .int .i64 0, .slice none 0 0]) ∧ Below w.heap.size w w' := by
  have q1 := build_tr0'
  have h1 : (k != 0) = true := by simp [hk]
  clear hk
  go_enter Try.func79, Try.ntmps79
  have B := Below.refl w.heap.size w
  replace VP := VP.kept (belowA w (.cells #[.int .i64 k, .int .i64 v] 51))
  replace B := thenB B (belowA w (.cells #[.int .i64 k, .int .i64 v] 51))
  have VX := V.new w [.int .i64 k, .int .i64 v] 51
  replace VP := VP.kept (belowA (w.alloc (.cells #[.int .i64 k, .int .i64 v] 51)) (.cells #[.int .i64 0, .int .i64 0, .slice none 0 0] 33))
  replace VX := VX.kept (belowA (w.alloc (.cells #[.int .i64 k, .int .i64 v] 51)) (.cells #[.int .i64 0, .int .i64 0, .slice none 0 0] 33))
  replace B := thenB B (belowA (w.alloc (.cells #[.int .i64 k, .int .i64 v] 51)) (.cells #[.int .i64 0, .int .i64 0, .slice none 0 0] 33))
  have VR : V ((w.alloc (.cells #[.int .i64 k, .int .i64 v] 51)).alloc (.cells #[.int .i64 0, .int .i64 0, .slice none 0 0] 33)) (w.heap.size + 1) [.int .i64 0, .int .i64 0, .slice none 0 0] := V.newAt _ _ _ _ (by simp)
  obtain ⟨s_VP, f_VP, z_VP⟩ := VP.open
  obtain ⟨s_VX, f_VX, z_VX⟩ := VX.open
  obtain ⟨s_VR, f_VR, z_VR⟩ := VR.open
  have Bo := B
  clear s_VP f_VP z_VP s_VX f_VX z_VX s_VR f_VR z_VR
  have VF := Hid.mk (VR.filled [.int .i64 k, .int .i64 0, .slice none 0 0] rfl)
  have HT := Hid.mk VR.there
  have BR := belowCells B (show w.heap.size ≤ w.heap.size + 1 by (first | omega | (simp; done) | (simp; omega))) 0 [.int .i64 k, .int .i64 0, .slice none 0 0]
  replace BR := Hid.mk BR
  obtain ⟨s_VP, f_VP, z_VP⟩ := VP.open
  obtain ⟨s_VX, f_VX, z_VX⟩ := VX.open
  obtain ⟨s_VR, f_VR, z_VR⟩ := VR.open
  go_wp2_with (refine wpList_store_mid rfl 33 _ _ rfl (w.heap.size + 1) 0 #[.int .i64 k, .int .i64 0, .slice none 0 0] rfl rfl HT.out (by kernel_rfl) (by kernel_rfl) ?_)
  refine bodyPost_ret (v := .agg #[.int .i64 k, .int .i64 0, .slice none 0 0]) (results_row Try.results79 _ _ (w.heap.size + 1) [.int .i64 k, .int .i64 0, .slice none 0 0] _ rfl VF.out Try.underlying33 rfl (by kernel_rfl)) rfl ⟨rfl, BR.out⟩

theorem build_ir01 (k v : Int) (w : World) : (Instr.build 51 #[(0, .int .i64 k), (1, .int .i64 v)]).run Try.prog w = .ok (.agg #[.int .i64 k, .int .i64 v]) w := run_build w 51 _ _ (by kernel_rfl)

set_option maxRecDepth 20000 in
set_option maxHeartbeats 4000000 in
theorem told_ok (b0 Q : Nat) (Of : Nat → Prop) (m : Mk) (v v' : Int) (w : World) (h : MP w b0 Of Q m) (ev : m.c = 0 → v' = v) :
    Calls Try.prog 89 #[.pointer (some ⟨Q, 0, none⟩), .int .i64 v'] w fun e w' => ∃ c d, e = .returned (.agg #[.int .i64 m.c, .int .i64 (okV m v), .slice c (okL m).length d]) ∧ OwnTerm w' b0 c d (okL m) ∧ Below w.heap.size w w' := by
  have q := build_ir01
  obtain ⟨base, p, g, c, d, xs, VQ, H, hl, hx, hbb, hbQ, hnb, ho⟩ := h
  unfold okV okL
  have hQ := VQ.1
  have hOL := Hid.mk (fun b hb => (H.o.lt b hb).2)
  replace hbb := Hid.mk hbb
  have hpw := H.v.1
  have VP := H.v
  have O := H.o
  clear H ho hnb hbQ
  obtain ⟨ml, mc⟩ := m
  simp only at *
  by_cases hc : mc = 0
  · subst hc
    obtain rfl := hx rfl
    obtain rfl := ev rfl
    simp only [if_true]
    obtain ⟨n, hn⟩ : ∃ n, xs.length = n := ⟨_, rfl⟩
    rw [hn] at VP ⊢
    have CA := Hid.mk (fun w h => answer_yes p g c n d v' w h)
    clear hx ev hn hl
    go_enter Try.func89, Try.ntmps89
    have B := Below.refl w.heap.size w
    replace VQ := VQ.kept (belowA w (.cells #[.int .i64 0, .int .i64 0, .slice none 0 0] 33))
    replace VP := VP.kept (belowA w (.cells #[.int .i64 0, .int .i64 0, .slice none 0 0] 33))
    replace O := O.kept (belowA w (.cells #[.int .i64 0, .int .i64 0, .slice none 0 0] 33))
    replace B := thenB B (belowA w (.cells #[.int .i64 0, .int .i64 0, .slice none 0 0] 33))
    have VR := V.new w [.int .i64 0, .int .i64 0, .slice none 0 0] 33
    obtain ⟨s_VQ, f_VQ, z_VQ⟩ := VQ.open
    obtain ⟨s_VP, f_VP, z_VP⟩ := VP.open
    obtain ⟨s_VR, f_VR, z_VR⟩ := VR.open
    have Bo := B
    clear s_VQ f_VQ z_VQ s_VP f_VP z_VP s_VR f_VR z_VR
    have K : ∀ w' : World, Below (w.alloc (.cells #[.int .i64 0, .int .i64 0, .slice none 0 0] 33)).heap.size (w.alloc (.cells #[.int .i64 0, .int .i64 0, .slice none 0 0] 33)) w' → (w'.cell? ⟨Q, 0, none⟩ = some (.pointer (some ⟨p, 0, none⟩)) ∧ w'.cell? ⟨Q, 1, none⟩ = some (.int .i64 0)) := fun w' h => ⟨(VQ.kept h).2.1 0 (by simp), (VQ.kept h).2.1 1 (by simp)⟩
    have K := Hid.mk K
    obtain ⟨s_VQ, f_VQ, z_VQ⟩ := VQ.open
    obtain ⟨s_VP, f_VP, z_VP⟩ := VP.open
    obtain ⟨s_VR, f_VR, z_VR⟩ := VR.open
    go_wp2_with fail
    clear s_VQ f_VQ z_VQ s_VP f_VP z_VP s_VR f_VR z_VR
    refine wp_region_held_drew (S := (fun w' => w'.cell? ⟨Q, 0, none⟩ = some (.pointer (some ⟨p, 0, none⟩)) ∧ w'.cell? ⟨Q, 1, none⟩ = some (.int .i64 0))) (by kernel_rfl) (K.out _ (Below.refl _ _).drew) (fun hHeld => ?_)
    refine wpAnyH_take (i := 0) (oi := _) (v := ?vg1u1) rfl (by kernel_rfl) (by kernel_rfl) (by kernel_rfl) (fun _ _ _ h => h) (Or.inl ⟨by kernel_rfl, ?hyg1u1⟩) hHeld ?restg1u1
    case hyg1u1 => (intro w hSw; (try dsimp only at hSw); go_simp; first | done | with_reducible rfl)
    try simp only [Act.put, List.getElem_toArray, List.getElem_cons_zero, List.setIfInBounds_toArray, List.set_cons_zero, List.set_cons_succ]
    refine wpAnyH_take (i := 1) (oi := _) (v := ?vg1u2) rfl (by kernel_rfl) (by kernel_rfl) (by kernel_rfl) (fun _ _ _ h => h) (Or.inl ⟨by kernel_rfl, ?hyg1u2⟩) hHeld ?restg1u2
    case hyg1u2 => (intro w hSw; (try dsimp only at hSw); go_simp; first | done | with_reducible rfl)
    try simp only [Act.put, List.getElem_toArray, List.getElem_cons_zero, List.getElem_cons_succ, List.setIfInBounds_toArray, List.set_cons_zero, List.set_cons_succ]
    refine wpAnyH_take (i := 2) (oi := _) (v := ?vg1u3) rfl (by kernel_rfl) (by kernel_rfl) (by kernel_rfl) (fun _ _ _ h => h) (Or.inl ⟨by kernel_rfl, ?hyg1u3⟩) hHeld ?restg1u3
    case hyg1u3 => (intro w hSw; (try dsimp only at hSw); go_simp; first | done | with_reducible rfl)
    try simp only [Act.put, List.getElem_toArray, List.getElem_cons_zero, List.getElem_cons_succ, List.setIfInBounds_toArray, List.set_cons_zero, List.set_cons_succ]
    refine wpAnyH_take (i := 3) (oi := _) (v := ?vg1u4) rfl (by kernel_rfl) (by kernel_rfl) (by kernel_rfl) (fun _ _ _ h => h) (Or.inl ⟨by kernel_rfl, ?hyg1u4⟩) hHeld ?restg1u4
    case hyg1u4 => (intro w hSw; (try dsimp only at hSw); go_simp; first | done | with_reducible rfl)
    try simp only [Act.put, List.getElem_toArray, List.getElem_cons_zero, List.getElem_cons_succ, List.setIfInBounds_toArray, List.set_cons_zero, List.set_cons_succ]
    refine wpAnyH_take (i := 4) (oi := _) (v := ?vg1u5) rfl (by kernel_rfl) (by kernel_rfl) (by kernel_rfl) (fun _ _ _ h => h) (Or.inl ⟨by kernel_rfl, ?hyg1u5⟩) hHeld ?restg1u5
    case hyg1u5 => (intro w hSw; (try dsimp only at hSw); go_simp; first | done | with_reducible rfl)
    try simp only [Act.put, List.getElem_toArray, List.getElem_cons_zero, List.getElem_cons_succ, List.setIfInBounds_toArray, List.set_cons_zero, List.set_cons_succ]
    refine wpAnyH_take (i := 5) (oi := _) (v := ?vg1u6) rfl (by kernel_rfl) (by kernel_rfl) (by kernel_rfl) (fun _ _ _ h => h) (Or.inl ⟨by kernel_rfl, ?hyg1u6⟩) hHeld ?restg1u6
    case hyg1u6 => (intro w hSw; (try dsimp only at hSw); go_simp; first | done | with_reducible rfl)
    try simp only [Act.put, List.getElem_toArray, List.getElem_cons_zero, List.getElem_cons_succ, List.setIfInBounds_toArray, List.set_cons_zero, List.set_cons_succ]
    refine wpAnyH_take (i := 6) (oi := _) (v := ?vg1u7) rfl (by kernel_rfl) (by kernel_rfl) (by kernel_rfl) (fun _ _ _ h => h) (Or.inl ⟨by kernel_rfl, ?hyg1u7⟩) hHeld ?restg1u7
    case hyg1u7 => (intro w hSw; (try dsimp only at hSw); go_simp; first | done | with_reducible rfl)
    try simp only [Act.put, List.getElem_toArray, List.getElem_cons_zero, List.getElem_cons_succ, List.setIfInBounds_toArray, List.set_cons_zero, List.set_cons_succ]
    refine wpAnyH_take (i := 7) (oi := _) (v := ?vg1u8) rfl (by kernel_rfl) (by kernel_rfl) (by kernel_rfl) (fun _ _ _ h => h) (Or.inl ⟨by kernel_rfl, ?hyg1u8⟩) hHeld ?restg1u8
    case hyg1u8 => (intro w hSw; (try dsimp only at hSw); go_simp; first | done | with_reducible rfl)
    try simp only [Act.put, List.getElem_toArray, List.getElem_cons_zero, List.getElem_cons_succ, List.setIfInBounds_toArray, List.set_cons_zero, List.set_cons_succ]
    refine wpAnyH_take (i := 8) (oi := _) (v := ?vg1u9) rfl (by kernel_rfl) (by kernel_rfl) (by kernel_rfl) (fun _ _ _ h => h) (Or.inl ⟨by kernel_rfl, ?hyg1u9⟩) hHeld ?restg1u9
    case hyg1u9 => (intro w hSw; (try dsimp only at hSw); go_simp; first | done | with_reducible rfl)
    try simp only [Act.put, List.getElem_toArray, List.getElem_cons_zero, List.getElem_cons_succ, List.setIfInBounds_toArray, List.set_cons_zero, List.set_cons_succ]
    refine wpAnyH_take (i := 9) (oi := _) (v := ?vg1u10) rfl (by kernel_rfl) (by kernel_rfl) (by kernel_rfl) (fun _ _ _ h => h) (Or.inl ⟨by kernel_rfl, ?hyg1u10⟩) hHeld ?restg1u10
    case hyg1u10 => (intro w hSw; (try dsimp only at hSw); go_simp; first | done | with_reducible rfl)
    try simp only [Act.put, List.getElem_toArray, List.getElem_cons_zero, List.getElem_cons_succ, List.setIfInBounds_toArray, List.set_cons_zero, List.set_cons_succ]
    refine wpAnyH_ready (rs := [10]) (by kernel_rfl) (by simp) ?_
    refine AllReadyH.cons (o := _) rfl (fun K0 hK0 => ?_) AllReadyH.nil
    go_simp
    go_at_call 79
    refine (CA.out _ (VP.kept (Below.refl _ _).drew)).mono ?_
    rintro e wg1v11 ⟨rfl, bg1v11⟩
    refine hK0.out _ _ (K.out _ (thenB (Below.refl _ _).drew bg1v11)) (fun hHeld => ?_)
    clear hK0 K0
    try simp only [Act.put, List.getElem_toArray, List.getElem_cons_zero, List.getElem_cons_succ, List.setIfInBounds_toArray, List.set_cons_zero, List.set_cons_succ]
    have bacc : Below (w.alloc (.cells #[.int .i64 0, .int .i64 0, .slice none 0 0] 33)).heap.size (w.alloc (.cells #[.int .i64 0, .int .i64 0, .slice none 0 0] 33)) _ := (thenB (Below.refl _ _).drew bg1v11)
    replace VQ := VQ.kept bacc
    replace VP := VP.kept bacc
    replace VR := VR.kept bacc
    replace O := O.kept bacc
    replace B := thenB B bacc
    have Sz1 := bacc.size
    simp only [World.size_alloc] at Sz1
    have A_O := (O.mono hbb.out).apart (B := w.heap.size) (by intro b hb; have := hOL.out b hb; first | omega | (simp at this; omega)) 0 [.int .i64 0, .int .i64 v', .slice c n d]
    have HT := Hid.mk VR.there
    have VF := VR.filled [.int .i64 0, .int .i64 v', .slice c n d] rfl
    have KA : (World.setCells wg1v11 (w.heap.size) 0 [.int .i64 0, .int .i64 v', .slice c n d]).cell? ⟨Q, 0, none⟩ = some (.pointer (some ⟨p, 0, none⟩)) ∧ (World.setCells wg1v11 (w.heap.size) 0 [.int .i64 0, .int .i64 v', .slice c n d]).cell? ⟨Q, 1, none⟩ = some (.int .i64 0) := ⟨(VQ.apart (B := w.heap.size) (by first | omega | (simp; omega)) 0 [.int .i64 0, .int .i64 v', .slice c n d]).2.1 0 (by simp), (VQ.apart (B := w.heap.size) (by first | omega | (simp; omega)) 0 [.int .i64 0, .int .i64 v', .slice c n d]).2.1 1 (by simp)⟩
    have BR := belowCells B (show w.heap.size ≤ w.heap.size by (first | omega | (simp; done) | (simp; omega))) 0 [.int .i64 0, .int .i64 v', .slice c n d]
    obtain ⟨w6, hw6⟩ : ∃ w6, World.setCells wg1v11 (w.heap.size) 0 [.int .i64 0, .int .i64 v', .slice c n d] = w6 := ⟨_, rfl⟩
    rw [hw6] at VF BR A_O KA
    replace hw6 := Hid.mk hw6
    replace VF := Hid.mk VF
    replace KA := Hid.mk KA
    replace BR := Hid.mk BR
    replace A_O := Hid.mk A_O
    refine wpAnyH_ready (rs := [11]) (by kernel_rfl) (by simp) ?_
    refine AllReadyH.cons (o := _) rfl (fun K0 hK0 => ?_) AllReadyH.nil
    rw [if_pos (by rfl)]
    refine wp_stroke w6 33 _ _ rfl (w.heap.size) 0 #[.int .i64 0, .int .i64 v', .slice c n d] rfl rfl HT.out (by kernel_rfl) (by kernel_rfl) hw6.out ?_
    refine hK0.out _ _ KA.out (fun hHeld => ?_)
    clear hK0 K0 hHeld KA HT
    refine wpAnyH_done (by kernel_rfl) ?_ _
    go_wp2
    refine bodyPost_ret (v := .agg #[.int .i64 0, .int .i64 v', .slice c n d]) (results_row Try.results89 _ _ (w.heap.size) [.int .i64 0, .int .i64 v', .slice c n d] _ rfl VF.out Try.underlying33 rfl (by kernel_rfl)) rfl ⟨c, d, rfl, A_O.out, BR.out⟩
  · rw [if_neg hc, if_neg hc]
    obtain ⟨n, hn⟩ : ∃ n, xs.length = n := ⟨_, rfl⟩
    rw [hn] at VP
    have CA := Hid.mk (fun w h => answer_noV p g c n d mc v' hc w h)
    clear hx ev hn hl hc O hOL
    go_enter Try.func89, Try.ntmps89
    have B := Below.refl w.heap.size w
    replace VQ := VQ.kept (belowA w (.cells #[.int .i64 0, .int .i64 0, .slice none 0 0] 33))
    replace VP := VP.kept (belowA w (.cells #[.int .i64 0, .int .i64 0, .slice none 0 0] 33))
    replace B := thenB B (belowA w (.cells #[.int .i64 0, .int .i64 0, .slice none 0 0] 33))
    have VR := V.new w [.int .i64 0, .int .i64 0, .slice none 0 0] 33
    obtain ⟨s_VQ, f_VQ, z_VQ⟩ := VQ.open
    obtain ⟨s_VP, f_VP, z_VP⟩ := VP.open
    obtain ⟨s_VR, f_VR, z_VR⟩ := VR.open
    have Bo := B
    clear s_VQ f_VQ z_VQ s_VP f_VP z_VP s_VR f_VR z_VR
    have K : ∀ w' : World, Below (w.alloc (.cells #[.int .i64 0, .int .i64 0, .slice none 0 0] 33)).heap.size (w.alloc (.cells #[.int .i64 0, .int .i64 0, .slice none 0 0] 33)) w' → (w'.cell? ⟨Q, 0, none⟩ = some (.pointer (some ⟨p, 0, none⟩)) ∧ w'.cell? ⟨Q, 1, none⟩ = some (.int .i64 mc)) := fun w' h => ⟨(VQ.kept h).2.1 0 (by simp), (VQ.kept h).2.1 1 (by simp)⟩
    have K := Hid.mk K
    obtain ⟨s_VQ, f_VQ, z_VQ⟩ := VQ.open
    obtain ⟨s_VP, f_VP, z_VP⟩ := VP.open
    obtain ⟨s_VR, f_VR, z_VR⟩ := VR.open
    go_wp2_with fail
    clear s_VQ f_VQ z_VQ s_VP f_VP z_VP s_VR f_VR z_VR
    refine wp_region_held_drew (S := (fun w' => w'.cell? ⟨Q, 0, none⟩ = some (.pointer (some ⟨p, 0, none⟩)) ∧ w'.cell? ⟨Q, 1, none⟩ = some (.int .i64 mc))) (by kernel_rfl) (K.out _ (Below.refl _ _).drew) (fun hHeld => ?_)
    refine wpAnyH_take (i := 0) (oi := _) (v := ?vg41u1) rfl (by kernel_rfl) (by kernel_rfl) (by kernel_rfl) (fun _ _ _ h => h) (Or.inl ⟨by kernel_rfl, ?hyg41u1⟩) hHeld ?restg41u1
    case hyg41u1 => (intro w hSw; (try dsimp only at hSw); go_simp; first | done | with_reducible rfl)
    try simp only [Act.put, List.getElem_toArray, List.getElem_cons_zero, List.setIfInBounds_toArray, List.set_cons_zero, List.set_cons_succ]
    refine wpAnyH_take (i := 1) (oi := _) (v := ?vg41u2) rfl (by kernel_rfl) (by kernel_rfl) (by kernel_rfl) (fun _ _ _ h => h) (Or.inl ⟨by kernel_rfl, ?hyg41u2⟩) hHeld ?restg41u2
    case hyg41u2 => (intro w hSw; (try dsimp only at hSw); go_simp; first | done | with_reducible rfl)
    try simp only [Act.put, List.getElem_toArray, List.getElem_cons_zero, List.getElem_cons_succ, List.setIfInBounds_toArray, List.set_cons_zero, List.set_cons_succ]
    refine wpAnyH_take (i := 2) (oi := _) (v := ?vg41u3) rfl (by kernel_rfl) (by kernel_rfl) (by kernel_rfl) (fun _ _ _ h => h) (Or.inl ⟨by kernel_rfl, ?hyg41u3⟩) hHeld ?restg41u3
    case hyg41u3 => (intro w hSw; (try dsimp only at hSw); go_simp; first | done | with_reducible rfl)
    try simp only [Act.put, List.getElem_toArray, List.getElem_cons_zero, List.getElem_cons_succ, List.setIfInBounds_toArray, List.set_cons_zero, List.set_cons_succ]
    refine wpAnyH_take (i := 3) (oi := _) (v := ?vg41u4) rfl (by kernel_rfl) (by kernel_rfl) (by kernel_rfl) (fun _ _ _ h => h) (Or.inl ⟨by kernel_rfl, ?hyg41u4⟩) hHeld ?restg41u4
    case hyg41u4 => (intro w hSw; (try dsimp only at hSw); go_simp; first | done | with_reducible rfl)
    try simp only [Act.put, List.getElem_toArray, List.getElem_cons_zero, List.getElem_cons_succ, List.setIfInBounds_toArray, List.set_cons_zero, List.set_cons_succ]
    refine wpAnyH_take (i := 4) (oi := _) (v := ?vg41u5) rfl (by kernel_rfl) (by kernel_rfl) (by kernel_rfl) (fun _ _ _ h => h) (Or.inl ⟨by kernel_rfl, ?hyg41u5⟩) hHeld ?restg41u5
    case hyg41u5 => (intro w hSw; (try dsimp only at hSw); go_simp; first | done | with_reducible rfl)
    try simp only [Act.put, List.getElem_toArray, List.getElem_cons_zero, List.getElem_cons_succ, List.setIfInBounds_toArray, List.set_cons_zero, List.set_cons_succ]
    refine wpAnyH_take (i := 5) (oi := _) (v := ?vg41u6) rfl (by kernel_rfl) (by kernel_rfl) (by kernel_rfl) (fun _ _ _ h => h) (Or.inl ⟨by kernel_rfl, ?hyg41u6⟩) hHeld ?restg41u6
    case hyg41u6 => (intro w hSw; (try dsimp only at hSw); go_simp; first | done | with_reducible rfl)
    try simp only [Act.put, List.getElem_toArray, List.getElem_cons_zero, List.getElem_cons_succ, List.setIfInBounds_toArray, List.set_cons_zero, List.set_cons_succ]
    refine wpAnyH_take (i := 6) (oi := _) (v := ?vg41u7) rfl (by kernel_rfl) (by kernel_rfl) (by kernel_rfl) (fun _ _ _ h => h) (Or.inl ⟨by kernel_rfl, ?hyg41u7⟩) hHeld ?restg41u7
    case hyg41u7 => (intro w hSw; (try dsimp only at hSw); go_simp; first | done | with_reducible rfl)
    try simp only [Act.put, List.getElem_toArray, List.getElem_cons_zero, List.getElem_cons_succ, List.setIfInBounds_toArray, List.set_cons_zero, List.set_cons_succ]
    refine wpAnyH_take (i := 7) (oi := _) (v := ?vg41u8) rfl (by kernel_rfl) (by kernel_rfl) (by kernel_rfl) (fun _ _ _ h => h) (Or.inl ⟨by kernel_rfl, ?hyg41u8⟩) hHeld ?restg41u8
    case hyg41u8 => (intro w hSw; (try dsimp only at hSw); go_simp; first | done | with_reducible rfl)
    try simp only [Act.put, List.getElem_toArray, List.getElem_cons_zero, List.getElem_cons_succ, List.setIfInBounds_toArray, List.set_cons_zero, List.set_cons_succ]
    refine wpAnyH_take (i := 8) (oi := _) (v := ?vg41u9) rfl (by kernel_rfl) (by kernel_rfl) (by kernel_rfl) (fun _ _ _ h => h) (Or.inl ⟨by kernel_rfl, ?hyg41u9⟩) hHeld ?restg41u9
    case hyg41u9 => (intro w hSw; (try dsimp only at hSw); go_simp; first | done | with_reducible rfl)
    try simp only [Act.put, List.getElem_toArray, List.getElem_cons_zero, List.getElem_cons_succ, List.setIfInBounds_toArray, List.set_cons_zero, List.set_cons_succ]
    refine wpAnyH_take (i := 9) (oi := _) (v := ?vg41u10) rfl (by kernel_rfl) (by kernel_rfl) (by kernel_rfl) (fun _ _ _ h => h) (Or.inl ⟨by kernel_rfl, ?hyg41u10⟩) hHeld ?restg41u10
    case hyg41u10 => (intro w hSw; (try dsimp only at hSw); go_simp; first | done | with_reducible rfl)
    try simp only [Act.put, List.getElem_toArray, List.getElem_cons_zero, List.getElem_cons_succ, List.setIfInBounds_toArray, List.set_cons_zero, List.set_cons_succ]
    refine wpAnyH_ready (rs := [10]) (by kernel_rfl) (by simp) ?_
    refine AllReadyH.cons (o := _) rfl (fun K0 hK0 => ?_) AllReadyH.nil
    go_simp
    go_at_call 79
    refine (CA.out _ (VP.kept (Below.refl _ _).drew)).mono ?_
    rintro e wg41v11 ⟨rfl, bg41v11⟩
    refine hK0.out _ _ (K.out _ (thenB (Below.refl _ _).drew bg41v11)) (fun hHeld => ?_)
    clear hK0 K0
    try simp only [Act.put, List.getElem_toArray, List.getElem_cons_zero, List.getElem_cons_succ, List.setIfInBounds_toArray, List.set_cons_zero, List.set_cons_succ]
    have bacc : Below (w.alloc (.cells #[.int .i64 0, .int .i64 0, .slice none 0 0] 33)).heap.size (w.alloc (.cells #[.int .i64 0, .int .i64 0, .slice none 0 0] 33)) _ := (thenB (Below.refl _ _).drew bg41v11)
    replace VQ := VQ.kept bacc
    replace VP := VP.kept bacc
    replace VR := VR.kept bacc
    replace B := thenB B bacc
    have Sz41 := bacc.size
    simp only [World.size_alloc] at Sz41
    have HT := Hid.mk VR.there
    have VF := VR.filled [.int .i64 mc, .int .i64 0, .slice none 0 0] rfl
    have KA : (World.setCells wg41v11 (w.heap.size) 0 [.int .i64 mc, .int .i64 0, .slice none 0 0]).cell? ⟨Q, 0, none⟩ = some (.pointer (some ⟨p, 0, none⟩)) ∧ (World.setCells wg41v11 (w.heap.size) 0 [.int .i64 mc, .int .i64 0, .slice none 0 0]).cell? ⟨Q, 1, none⟩ = some (.int .i64 mc) := ⟨(VQ.apart (B := w.heap.size) (by first | omega | (simp; omega)) 0 [.int .i64 mc, .int .i64 0, .slice none 0 0]).2.1 0 (by simp), (VQ.apart (B := w.heap.size) (by first | omega | (simp; omega)) 0 [.int .i64 mc, .int .i64 0, .slice none 0 0]).2.1 1 (by simp)⟩
    have BR := belowCells B (show w.heap.size ≤ w.heap.size by (first | omega | (simp; done) | (simp; omega))) 0 [.int .i64 mc, .int .i64 0, .slice none 0 0]
    obtain ⟨w6, hw6⟩ : ∃ w6, World.setCells wg41v11 (w.heap.size) 0 [.int .i64 mc, .int .i64 0, .slice none 0 0] = w6 := ⟨_, rfl⟩
    rw [hw6] at VF BR KA
    replace hw6 := Hid.mk hw6
    replace VF := Hid.mk VF
    replace KA := Hid.mk KA
    replace BR := Hid.mk BR
    refine wpAnyH_ready (rs := [11]) (by kernel_rfl) (by simp) ?_
    refine AllReadyH.cons (o := _) rfl (fun K0 hK0 => ?_) AllReadyH.nil
    rw [if_pos (by rfl)]
    refine wp_stroke w6 33 _ _ rfl (w.heap.size) 0 #[.int .i64 mc, .int .i64 0, .slice none 0 0] rfl rfl HT.out (by kernel_rfl) (by kernel_rfl) hw6.out ?_
    refine hK0.out _ _ KA.out (fun hHeld => ?_)
    clear hK0 K0 hHeld KA HT
    refine wpAnyH_done (by kernel_rfl) ?_ _
    go_wp2
    refine bodyPost_ret (v := .agg #[.int .i64 mc, .int .i64 0, .slice none 0 0]) (results_row Try.results89 _ _ (w.heap.size) [.int .i64 mc, .int .i64 0, .slice none 0 0] _ rfl VF.out Try.underlying33 rfl (by kernel_rfl)) rfl ⟨none, 0, rfl, OwnTerm.none, BR.out⟩

/-- What is asked of a maker. -/
def mkC (xs : List T4) (zs ns : List Int) : Int := if aqC xs zs = 0 then (if nmsOk ns = true then 0 else 3) else aqC xs zs

theorem mkC_ways (xs : List T4) (zs ns : List Int) : (tfC xs ≠ 0 ∧ mkC xs zs ns = tfC xs) ∨ (tfC xs = 0 ∧ plsOk xs.length zs = false ∧ mkC xs zs ns = 3) ∨ (tfC xs = 0 ∧ plsOk xs.length zs = true ∧ nmsOk ns = false ∧ mkC xs zs ns = 3) ∨ (tfC xs = 0 ∧ plsOk xs.length zs = true ∧ nmsOk ns = true ∧ mkC xs zs ns = 0) := by
  unfold mkC
  rcases aq_ways xs zs with ⟨h1, e⟩ | ⟨h1, h2, e⟩ | ⟨h1, h2, e⟩
  · exact .inl ⟨h1, by rw [e, if_neg h1]⟩
  · exact .inr (.inl ⟨h1, by unfold plsOk; exact h2, by rw [e, if_neg (by decide)]⟩)
  · cases h3 : nmsOk ns
    · exact .inr (.inr (.inl ⟨h1, by unfold plsOk; exact h2, rfl, by rw [e]; rfl⟩))
    · exact .inr (.inr (.inr ⟨h1, by unfold plsOk; exact h2, rfl, by rw [e]; rfl⟩))

set_option maxRecDepth 20000 in
set_option maxHeartbeats 4000000 in
theorem makerOf_no (a : Option Addr) (n ca : Nat) (xs : List T4) (cz : Option Addr) (mz dz : Nat) (zs : List Int) (cn : Option Addr) (mn dn : Nat) (ns : List Int) (w : World) (ha : RdTerm w a xs) (hn : xs.length = n) (hx : n ≤ 1048576) (hok : ∀ t ∈ xs, okT t) (hz : Rd .i64 w cz zs) (hmz : zs.length = mz) (hxz : mz ≤ 1048576) (hs : Rd .i64 w cn ns) (hmn : ns.length = mn) (hxn : mn ≤ 1048576) (hc : mkC xs zs ns ≠ 0) :
    Calls Try.prog 67 #[.slice a n ca, .slice cz mz dz, .slice cn mn dn] w fun e w' => e = .returned (.tuple #[.pointer none, .int .i64 (mkC xs zs ns)]) ∧ Below w.heap.size w w' := by
  rcases mkC_ways xs zs ns with ⟨h1, e⟩ | ⟨h1, h2, e⟩ | ⟨h1, h2, h3, e⟩ | ⟨h1, h2, h3, e⟩
  · have CB := Hid.mk (fun w h => bookOf_no a n ca xs w h hn (by unfold maxLen; omega) hok h1)
    rw [e]
    have h0 : (tfC xs != 0) = true := by simp [h1]
    clear hok e h1 hc
    generalize tfC xs = kk at *
    go_enter Try.func67, Try.ntmps67
    have B := Below.refl w.heap.size w
    have Bo := B
    go_wp2_with fail
    refine (CB.out _ ha).mono ?_
    rintro e w1 ⟨rfl, b1⟩
    have S1 := b1.size
    replace ha := ha.kept b1
    replace hz := hz.kept b1
    replace hs := hs.kept b1
    replace B := thenB B b1
    clear b1
    have Bo := B
    have Bf := Hid.mk B
    clear Bo
    go_wp2
    refine bodyPost_ret (v := .tuple #[.pointer none, .int .i64 kk]) (by simp [results, Try.results67, go_sem]) rfl ⟨rfl, Bf.out⟩
  · have CB := Hid.mk (fun w h => bookOf_yes a n ca xs w h hn (by unfold maxLen; omega) hok h1)
    have CA := Hid.mk (fun w c0 d0 h => arePlaces_ok c0 n d0 cz mz dz zs w h hmz (by unfold maxLen; omega) (by unfold maxLen; omega))
    rw [hn] at h2
    rw [h2] at CA
    rw [e]
    clear hok e h1 h2 hc
    go_enter Try.func67, Try.ntmps67
    have B := Below.refl w.heap.size w
    have Bo := B
    go_wp2_with fail
    refine (CB.out _ ha).mono ?_
    rintro e w21 ⟨p, g, c0, d0, rfl, H, b21⟩
    have S21 := b21.size
    replace ha := ha.kept b21
    replace hz := hz.kept b21
    replace hs := hs.kept b21
    replace B := thenB B b21
    clear b21
    have Bo := B
    have VP := H.v
    rw [hn] at VP
    obtain ⟨s_VP, f_VP, z_VP⟩ := VP.open
    have Bo := B
    go_wp2_with fail
    refine (CA.out _ _ _ hz).mono ?_
    rintro e wq ⟨rfl, rfl⟩
    have Bf := Hid.mk B
    clear Bo
    go_wp2
    refine bodyPost_ret (v := .tuple #[.pointer none, .int .i64 3]) (by simp [results, Try.results67, go_sem]) rfl ⟨rfl, Bf.out⟩
  · have CB := Hid.mk (fun w h => bookOf_yes a n ca xs w h hn (by unfold maxLen; omega) hok h1)
    have CA := Hid.mk (fun w c0 d0 h => arePlaces_ok c0 n d0 cz mz dz zs w h hmz (by unfold maxLen; omega) (by unfold maxLen; omega))
    have CN := Hid.mk (fun w h => areNames_ok cn mn dn ns w h hmn (by unfold maxLen; omega))
    rw [hn] at h2
    rw [h2] at CA
    rw [h3] at CN
    rw [e]
    clear hok e h1 h2 h3 hc
    go_enter Try.func67, Try.ntmps67
    have B := Below.refl w.heap.size w
    have Bo := B
    go_wp2_with fail
    refine (CB.out _ ha).mono ?_
    rintro e w41 ⟨p, g, c0, d0, rfl, H, b41⟩
    have S41 := b41.size
    replace ha := ha.kept b41
    replace hz := hz.kept b41
    replace hs := hs.kept b41
    replace B := thenB B b41
    clear b41
    have Bo := B
    have VP := H.v
    rw [hn] at VP
    obtain ⟨s_VP, f_VP, z_VP⟩ := VP.open
    have Bo := B
    go_wp2_with fail
    refine (CA.out _ _ _ hz).mono ?_
    rintro e wq ⟨rfl, rfl⟩
    go_wp2_with fail
    refine (CN.out _ hs).mono ?_
    rintro e wq ⟨rfl, rfl⟩
    have Bf := Hid.mk B
    clear Bo
    go_wp2
    refine bodyPost_ret (v := .tuple #[.pointer none, .int .i64 3]) (by simp [results, Try.results67, go_sem]) rfl ⟨rfl, Bf.out⟩
  · exact absurd e hc

set_option maxRecDepth 20000 in
set_option maxHeartbeats 4000000 in
theorem makerOf_yes (a : Option Addr) (n ca : Nat) (xs : List T4) (cz : Option Addr) (mz dz : Nat) (zs : List Int) (cn : Option Addr) (mn dn : Nat) (ns : List Int) (w : World) (ha : RdTerm w a xs) (hn : xs.length = n) (hx : n ≤ 1048576) (hok : ∀ t ∈ xs, okT t) (hz : Rd .i64 w cz zs) (hmz : zs.length = mz) (hxz : mz ≤ 1048576) (hs : Rd .i64 w cn ns) (hmn : ns.length = mn) (hxn : mn ≤ 1048576) (hc : mkC xs zs ns = 0) :
    Calls Try.prog 67 #[.slice a n ca, .slice cz mz dz, .slice cn mn dn] w fun e w' => ∃ Q p g c d, e = .returned (.tuple #[.pointer (some ⟨Q, 0, none⟩), .int .i64 0]) ∧ V w' Q [.pointer (some ⟨p, 0, none⟩), .int .i64 0] ∧ Bk w' w.heap.size p g c d xs ∧ w.heap.size ≤ Q ∧ ¬ BkX p g c Q ∧ Below w.heap.size w w' := by
  have q := build_mk
  rcases mkC_ways xs zs ns with ⟨h1, e⟩ | ⟨h1, h2, e⟩ | ⟨h1, h2, h3, e⟩ | ⟨h1, h2, h3, e⟩
  · rw [e] at hc; exact absurd hc h1
  · rw [e] at hc; exact absurd hc (by decide)
  · rw [e] at hc; exact absurd hc (by decide)
  · have CB := Hid.mk (fun w h => bookOf_yes a n ca xs w h hn (by unfold maxLen; omega) hok h1)
    have CA := Hid.mk (fun w c0 d0 h => arePlaces_ok c0 n d0 cz mz dz zs w h hmz (by unfold maxLen; omega) (by unfold maxLen; omega))
    have CN := Hid.mk (fun w h => areNames_ok cn mn dn ns w h hmn (by unfold maxLen; omega))
    rw [hn] at h2
    rw [h2] at CA
    rw [h3] at CN
    clear hok e h1 h2 h3 hc
    go_enter Try.func67, Try.ntmps67
    have B := Below.refl w.heap.size w
    have Bo := B
    go_wp2_with fail
    refine (CB.out _ ha).mono ?_
    rintro e w61 ⟨p, g, c0, d0, rfl, H, b61⟩
    have S61 := b61.size
    replace ha := ha.kept b61
    replace hz := hz.kept b61
    replace hs := hs.kept b61
    replace B := thenB B b61
    clear b61
    have Bo := B
    have Hs0 := B.size
    have Hp0 := fun k hk => (H.lt k hk).2
    have VP := H.v
    rw [hn] at VP
    obtain ⟨s_VP, f_VP, z_VP⟩ := VP.open
    have Bo := B
    go_wp2_with fail
    refine (CA.out _ _ _ hz).mono ?_
    rintro e wq ⟨rfl, rfl⟩
    go_wp2_with fail
    refine (CN.out _ hs).mono ?_
    rintro e wq ⟨rfl, rfl⟩
    replace VP := VP.kept (belowA wq (.cells #[.pointer (some ⟨p, 0, none⟩), .int .i64 0] 92))
    replace ha := ha.kept (belowA wq (.cells #[.pointer (some ⟨p, 0, none⟩), .int .i64 0] 92))
    replace hz := hz.kept (belowA wq (.cells #[.pointer (some ⟨p, 0, none⟩), .int .i64 0] 92))
    replace hs := hs.kept (belowA wq (.cells #[.pointer (some ⟨p, 0, none⟩), .int .i64 0] 92))
    replace H := H.kept (belowA wq (.cells #[.pointer (some ⟨p, 0, none⟩), .int .i64 0] 92))
    replace B := thenB B (belowA wq (.cells #[.pointer (some ⟨p, 0, none⟩), .int .i64 0] 92))
    have VQ := V.new wq [.pointer (some ⟨p, 0, none⟩), .int .i64 0] 92
    have Bf := Hid.mk B
    have VQf := Hid.mk VQ
    have Hf := Hid.mk H
    have hp := Hid.mk Hp0
    have hsw := Hid.mk Hs0
    clear s_VP f_VP z_VP
    obtain ⟨s_VP, f_VP, z_VP⟩ := VP.open
    obtain ⟨s_VQ, f_VQ, z_VQ⟩ := VQ.open
    clear B
    go_wp2
    refine bodyPost_ret (v := .tuple #[.pointer (some ⟨wq.heap.size, 0, none⟩), .int .i64 0]) (by simp [results, Try.results67, go_sem]) rfl ⟨_, p, g, c0, d0, rfl, VQf.out, Hf.out, hsw.out, fun e => by have := hp.out _ e; omega, Bf.out⟩

theorem mkC_zero {xs : List T4} {zs ns : List Int} (h : mkC xs zs ns = 0) : tfC xs = 0 ∧ (∀ z ∈ zs, 0 ≤ z ∧ z < xs.length) ∧ nmsOk ns = true := by
  rcases mkC_ways xs zs ns with ⟨h1, e⟩ | ⟨h1, h2, e⟩ | ⟨h1, h2, h3, e⟩ | ⟨h1, h2, h3, e⟩
  · rw [e] at h; exact absurd h h1
  · rw [e] at h; exact absurd h (by decide)
  · rw [e] at h; exact absurd h (by decide)
  · exact ⟨h1, plsOk_iff.1 h2, h3⟩

/-- A maker just made. -/
theorem MP.made {w0 w : World} {Q p g : Nat} {c : Option Addr} {d : Nat} {xs : List T4} (V1 : V w Q [.pointer (some ⟨p, 0, none⟩), .int .i64 0]) (H : Bk w w0.heap.size p g c d xs) (h1 : w0.heap.size ≤ Q) (h2 : ¬ BkX p g c Q) (ht : tfC xs = 0) : MP w w0.heap.size (fun k => k < w0.heap.size) Q ⟨xs, 0⟩ :=
  ⟨_, p, g, c, d, xs, V1, H, (tfC_zero ht).1, fun _ => rfl, Nat.le_refl _, h1, h2, fun k hk => ⟨by have := V1.1; omega, by omega, fun e => by have := (H.lt k e).1; omega⟩⟩

end Go.Proofs.Ythkmoabkeblbjaa
