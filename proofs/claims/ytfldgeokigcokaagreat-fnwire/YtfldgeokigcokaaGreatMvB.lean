/- withPlaces. -/
import Derived.Test.YtfldgeokigcokaaGreatMvA
import Derived.Test.YtfldgeokigcokaaGreatTmK
import Derived.Test.YtfldgeokigcokaaGreatTmU
namespace Go.Proofs.YtfldgeokigcokaaGreat
open Go.RowKit

set_option maxRecDepth 20000 in
set_option maxHeartbeats 4000000 in
theorem withPlaces_ok (t : T4) (h : 1 ≤ t.o ∧ t.o ≤ 7) (pl : Int → Int) (L : Nat) (c : Option Addr) (d : Nat) (w : World) (hR : Rd .i64 w c (tab L pl)) (ha : 0 < kids t.o → 0 ≤ t.a ∧ t.a < L) (hb : 1 < kids t.o → 0 ≤ t.b ∧ t.b < L) :
    Calls Tryz.prog 62 #[.agg #[.int .i64 t.o, .int .i64 t.a, .int .i64 t.b, .int .i64 t.n], .slice c L d] w fun e w' => ∃ r : T4, r = mvT t pl ∧ e = .returned (.agg #[.int .i64 r.o, .int .i64 r.a, .int .i64 r.b, .int .i64 r.n]) ∧ Below w.heap.size w w' := by
  have q2 := build_t2
  have q3 := build_t3
  have hRl : ∀ i : Nat, i < L → ∃ b o, c = some ⟨b, o, none⟩ ∧ w.cell? ⟨b, o + i, none⟩ = some (.int .i64 (pl i)) := fun i hi => by
    rcases hR with hR | ⟨b, o, rfl, hca⟩
    · have := tab_len L pl; rw [hR] at this; simp at this; omega
    · have := hca i (by rw [tab_len]; exact hi)
      rw [tab_at pl hi] at this
      exact ⟨b, o, rfl, this⟩
  rcases mvT_ways h pl with ⟨h1, hr⟩ | ⟨h1, h2, hr⟩ | ⟨h1, h2, h3, hk, hr⟩ | ⟨h1, h2, h3, h4, hk, hr⟩ | ⟨h1, h2, h3, h4, hk, hr⟩
  · rw [hr]
    obtain ⟨o, a, b, n⟩ := t
    simp only at *
    subst h1
    clear hRl hR ha hb h
    go_enter Tryz.func62, Tryz.ntmps62
    go_wp2
    refine bodyPost_ret (v := .agg #[.int .i64 1, .int .i64 a, .int .i64 b, .int .i64 n]) (by simp [results, Tryz.results62, go_sem]) rfl ⟨⟨1, a, b, n⟩, rfl, rfl, ?_⟩
    repeat' (first | exact Below.refl _ _ | refine Below.alloc ?_ (by simp) _ | refine Below.setCell ?_ (by simp) _ | refine Below.drew ?_)
  · rw [hr]
    obtain ⟨o, a, b, n⟩ := t
    simp only at *
    subst h2
    clear hRl hR ha hb h
    go_enter Tryz.func62, Tryz.ntmps62
    go_wp2
    refine bodyPost_ret (v := .agg #[.int .i64 2, .int .i64 a, .int .i64 b, .int .i64 n]) (by simp [results, Tryz.results62, go_sem]) rfl ⟨⟨2, a, b, n⟩, rfl, rfl, ?_⟩
    repeat' (first | exact Below.refl _ _ | refine Below.alloc ?_ (by simp) _ | refine Below.setCell ?_ (by simp) _ | refine Below.drew ?_)
  · rw [hr]
    obtain ⟨o, a, b, n⟩ := t
    simp only at *
    obtain ⟨a0, a1⟩ := ha (by omega)
    obtain ⟨i, rfl⟩ : ∃ i : Nat, a = (i : Int) := ⟨a.toNat, by omega⟩
    obtain ⟨bl, off, rfl, p0⟩ := hRl i (by omega)
    subst h3
    clear hr hRl hR ha hb h hk
    generalize pl i = v at *
    go_enter Tryz.func62, Tryz.ntmps62
    have B := Below.refl w.heap.size w
    replace B := thenB B (belowA w (.cells #[.int .i64 6, .int .i64 i, .int .i64 b, .int .i64 n] 70))
    have VX := V.new w [.int .i64 6, .int .i64 i, .int .i64 b, .int .i64 n] 70
    replace VX := VX.kept (belowA (w.alloc (.cells #[.int .i64 6, .int .i64 i, .int .i64 b, .int .i64 n] 70)) (.cells #[.int .i64 0, .int .i64 0, .int .i64 0, .int .i64 0] 70))
    replace B := thenB B (belowA (w.alloc (.cells #[.int .i64 6, .int .i64 i, .int .i64 b, .int .i64 n] 70)) (.cells #[.int .i64 0, .int .i64 0, .int .i64 0, .int .i64 0] 70))
    have VR : V ((w.alloc (.cells #[.int .i64 6, .int .i64 i, .int .i64 b, .int .i64 n] 70)).alloc (.cells #[.int .i64 0, .int .i64 0, .int .i64 0, .int .i64 0] 70)) (w.heap.size + 1) [.int .i64 0, .int .i64 0, .int .i64 0, .int .i64 0] := V.newAt _ _ _ _ (by simp)
    obtain ⟨s_VX, f_VX, z_VX⟩ := VX.open
    obtain ⟨s_VR, f_VR, z_VR⟩ := VR.open
    have Bo := B
    have hbl : bl < w.heap.size := World.block_lt_of_cell? _ _ p0
    replace p0 := ((bcell (belowA2 w (.cells #[.int .i64 6, .int .i64 i, .int .i64 b, .int .i64 n] 70) (.cells #[.int .i64 0, .int .i64 0, .int .i64 0, .int .i64 0] 70))).1 bl (off + i) hbl).trans p0
    have hi2 : i < L := by omega
    clear s_VX f_VX z_VX s_VR f_VR z_VR
    have K : ∀ w' : World, Below ((w.alloc (.cells #[.int .i64 6, .int .i64 i, .int .i64 b, .int .i64 n] 70)).alloc (.cells #[.int .i64 0, .int .i64 0, .int .i64 0, .int .i64 0] 70)).heap.size ((w.alloc (.cells #[.int .i64 6, .int .i64 i, .int .i64 b, .int .i64 n] 70)).alloc (.cells #[.int .i64 0, .int .i64 0, .int .i64 0, .int .i64 0] 70)) w' → (w'.cell? ⟨w.heap.size, 0, none⟩ = some (.int .i64 6) ∧ w'.cell? ⟨w.heap.size, 1, none⟩ = some (.int .i64 i) ∧ w'.cell? ⟨w.heap.size, 2, none⟩ = some (.int .i64 b) ∧ w'.cell? ⟨w.heap.size, 3, none⟩ = some (.int .i64 n) ∧ w'.cell? ⟨bl, off + i, none⟩ = some (.int .i64 v)) := fun w' h => ⟨(VX.kept h).2.1 0 (by simp), (VX.kept h).2.1 1 (by simp), (VX.kept h).2.1 2 (by simp), (VX.kept h).2.1 3 (by simp), ((bcell h).1 _ _ (by simp only [World.size_alloc]; omega)).trans p0⟩
    have K := Hid.mk K
    obtain ⟨s_VX, f_VX, z_VX⟩ := VX.open
    obtain ⟨s_VR, f_VR, z_VR⟩ := VR.open
    go_wp2_with fail
    clear s_VX f_VX z_VX s_VR f_VR z_VR
    refine wp_region_held_drew (S := (fun w' => w'.cell? ⟨w.heap.size, 0, none⟩ = some (.int .i64 6) ∧ w'.cell? ⟨w.heap.size, 1, none⟩ = some (.int .i64 i) ∧ w'.cell? ⟨w.heap.size, 2, none⟩ = some (.int .i64 b) ∧ w'.cell? ⟨w.heap.size, 3, none⟩ = some (.int .i64 n) ∧ w'.cell? ⟨bl, off + i, none⟩ = some (.int .i64 v))) (by kernel_rfl) (K.out _ (Below.refl _ _).drew) (fun hHeld => ?_)
    refine wpAnyH_take (i := 0) (oi := _) (v := ?vg1u1) rfl (by kernel_rfl) (by kernel_rfl) (by kernel_rfl) (fun _ _ _ h => h) (Or.inl ⟨by rfl, ?hyg1u1⟩) hHeld ?restg1u1
    case hyg1u1 => (intro w hSw; (try dsimp only at hSw); go_simp; first | done | with_reducible rfl)
    try simp only [Act.put, List.getElem_toArray, List.getElem_cons_zero, List.setIfInBounds_toArray, List.set_cons_zero, List.set_cons_succ]
    refine wpAnyH_take (i := 1) (oi := _) (v := ?vg1u2) rfl (by kernel_rfl) (by kernel_rfl) (by kernel_rfl) (fun _ _ _ h => h) (Or.inl ⟨by rfl, ?hyg1u2⟩) hHeld ?restg1u2
    case hyg1u2 => (intro w hSw; (try dsimp only at hSw); go_simp; first | done | with_reducible rfl)
    try simp only [Act.put, List.getElem_toArray, List.getElem_cons_zero, List.getElem_cons_succ, List.setIfInBounds_toArray, List.set_cons_zero, List.set_cons_succ]
    refine wpAnyH_take (i := 2) (oi := _) (v := ?vg1u3) rfl (by kernel_rfl) (by kernel_rfl) (by kernel_rfl) (fun _ _ _ h => h) (Or.inl ⟨by rfl, ?hyg1u3⟩) hHeld ?restg1u3
    case hyg1u3 => (intro w hSw; (try dsimp only at hSw); go_simp; first | done | with_reducible rfl)
    try simp only [Act.put, List.getElem_toArray, List.getElem_cons_zero, List.getElem_cons_succ, List.setIfInBounds_toArray, List.set_cons_zero, List.set_cons_succ]
    refine wpAnyH_take (i := 3) (oi := _) (v := ?vg1u4) rfl (by kernel_rfl) (by kernel_rfl) (by kernel_rfl) (fun _ _ _ h => h) (Or.inl ⟨by rfl, ?hyg1u4⟩) hHeld ?restg1u4
    case hyg1u4 => (intro w hSw; (try dsimp only at hSw); go_simp; first | done | with_reducible rfl)
    try simp only [Act.put, List.getElem_toArray, List.getElem_cons_zero, List.getElem_cons_succ, List.setIfInBounds_toArray, List.set_cons_zero, List.set_cons_succ]
    refine wpAnyH_take (i := 4) (oi := _) (v := ?vg1u5) rfl (by kernel_rfl) (by kernel_rfl) (by kernel_rfl) (fun _ _ _ h => h) (Or.inl ⟨by rfl, ?hyg1u5⟩) hHeld ?restg1u5
    case hyg1u5 => (intro w hSw; (try dsimp only at hSw); go_simp; first | done | with_reducible rfl)
    try simp only [Act.put, List.getElem_toArray, List.getElem_cons_zero, List.getElem_cons_succ, List.setIfInBounds_toArray, List.set_cons_zero, List.set_cons_succ]
    refine wpAnyH_take (i := 5) (oi := _) (v := ?vg1u6) rfl (by kernel_rfl) (by kernel_rfl) (by kernel_rfl) (fun _ _ _ h => h) (Or.inl ⟨by rfl, ?hyg1u6⟩) hHeld ?restg1u6
    case hyg1u6 => (intro w hSw; (try dsimp only at hSw); go_simp; first | done | with_reducible rfl)
    try simp only [Act.put, List.getElem_toArray, List.getElem_cons_zero, List.getElem_cons_succ, List.setIfInBounds_toArray, List.set_cons_zero, List.set_cons_succ]
    refine wpAnyH_take (i := 6) (oi := _) (v := ?vg1u7) rfl (by kernel_rfl) (by kernel_rfl) (by kernel_rfl) (fun _ _ _ h => h) (Or.inl ⟨by rfl, ?hyg1u7⟩) hHeld ?restg1u7
    case hyg1u7 => (intro w hSw; (try dsimp only at hSw); go_simp; first | done | with_reducible rfl)
    try simp only [Act.put, List.getElem_toArray, List.getElem_cons_zero, List.getElem_cons_succ, List.setIfInBounds_toArray, List.set_cons_zero, List.set_cons_succ]
    refine wpAnyH_take (i := 7) (oi := _) (v := ?vg1u8) rfl (by kernel_rfl) (by kernel_rfl) (by kernel_rfl) (fun _ _ _ h => h) (Or.inl ⟨by rfl, ?hyg1u8⟩) hHeld ?restg1u8
    case hyg1u8 => (intro w hSw; (try dsimp only at hSw); go_simp; first | done | with_reducible rfl)
    try simp only [Act.put, List.getElem_toArray, List.getElem_cons_zero, List.getElem_cons_succ, List.setIfInBounds_toArray, List.set_cons_zero, List.set_cons_succ]
    have bacc : Below ((w.alloc (.cells #[.int .i64 6, .int .i64 i, .int .i64 b, .int .i64 n] 70)).alloc (.cells #[.int .i64 0, .int .i64 0, .int .i64 0, .int .i64 0] 70)).heap.size ((w.alloc (.cells #[.int .i64 6, .int .i64 i, .int .i64 b, .int .i64 n] 70)).alloc (.cells #[.int .i64 0, .int .i64 0, .int .i64 0, .int .i64 0] 70)) _ := (Below.refl _ _).drew
    replace VX := VX.kept bacc
    replace VR := VR.kept bacc
    replace B := thenB B bacc
    have Sz1 := bacc.size
    simp only [World.size_alloc] at Sz1
    have HT := Hid.mk VR.there
    have VF := VR.filled [.int .i64 6, .int .i64 v, .int .i64 0, .int .i64 0] rfl
    have KA : (World.setCells (((w.alloc (.cells #[.int .i64 6, .int .i64 i, .int .i64 b, .int .i64 n] 70)).alloc (.cells #[.int .i64 0, .int .i64 0, .int .i64 0, .int .i64 0] 70)).drew) (w.heap.size + 1) 0 [.int .i64 6, .int .i64 v, .int .i64 0, .int .i64 0]).cell? ⟨w.heap.size, 0, none⟩ = some (.int .i64 6) ∧ (World.setCells (((w.alloc (.cells #[.int .i64 6, .int .i64 i, .int .i64 b, .int .i64 n] 70)).alloc (.cells #[.int .i64 0, .int .i64 0, .int .i64 0, .int .i64 0] 70)).drew) (w.heap.size + 1) 0 [.int .i64 6, .int .i64 v, .int .i64 0, .int .i64 0]).cell? ⟨w.heap.size, 1, none⟩ = some (.int .i64 i) ∧ (World.setCells (((w.alloc (.cells #[.int .i64 6, .int .i64 i, .int .i64 b, .int .i64 n] 70)).alloc (.cells #[.int .i64 0, .int .i64 0, .int .i64 0, .int .i64 0] 70)).drew) (w.heap.size + 1) 0 [.int .i64 6, .int .i64 v, .int .i64 0, .int .i64 0]).cell? ⟨w.heap.size, 2, none⟩ = some (.int .i64 b) ∧ (World.setCells (((w.alloc (.cells #[.int .i64 6, .int .i64 i, .int .i64 b, .int .i64 n] 70)).alloc (.cells #[.int .i64 0, .int .i64 0, .int .i64 0, .int .i64 0] 70)).drew) (w.heap.size + 1) 0 [.int .i64 6, .int .i64 v, .int .i64 0, .int .i64 0]).cell? ⟨w.heap.size, 3, none⟩ = some (.int .i64 n) ∧ (World.setCells (((w.alloc (.cells #[.int .i64 6, .int .i64 i, .int .i64 b, .int .i64 n] 70)).alloc (.cells #[.int .i64 0, .int .i64 0, .int .i64 0, .int .i64 0] 70)).drew) (w.heap.size + 1) 0 [.int .i64 6, .int .i64 v, .int .i64 0, .int .i64 0]).cell? ⟨bl, off + i, none⟩ = some (.int .i64 v) := ⟨(VX.apart (B := w.heap.size + 1) (by first | omega | (simp; omega)) 0 [.int .i64 6, .int .i64 v, .int .i64 0, .int .i64 0]).2.1 0 (by simp), (VX.apart (B := w.heap.size + 1) (by first | omega | (simp; omega)) 0 [.int .i64 6, .int .i64 v, .int .i64 0, .int .i64 0]).2.1 1 (by simp), (VX.apart (B := w.heap.size + 1) (by first | omega | (simp; omega)) 0 [.int .i64 6, .int .i64 v, .int .i64 0, .int .i64 0]).2.1 2 (by simp), (VX.apart (B := w.heap.size + 1) (by first | omega | (simp; omega)) 0 [.int .i64 6, .int .i64 v, .int .i64 0, .int .i64 0]).2.1 3 (by simp), (cells_far (by omega) 0 [.int .i64 6, .int .i64 v, .int .i64 0, .int .i64 0]).trans (((bcell bacc).1 _ _ (by simp only [World.size_alloc]; omega)).trans p0)⟩
    have BR := belowCells B (show w.heap.size ≤ w.heap.size + 1 by (first | omega | (simp; done) | (simp; omega))) 0 [.int .i64 6, .int .i64 v, .int .i64 0, .int .i64 0]
    obtain ⟨w6, hw6⟩ : ∃ w6, World.setCells (((w.alloc (.cells #[.int .i64 6, .int .i64 i, .int .i64 b, .int .i64 n] 70)).alloc (.cells #[.int .i64 0, .int .i64 0, .int .i64 0, .int .i64 0] 70)).drew) (w.heap.size + 1) 0 [.int .i64 6, .int .i64 v, .int .i64 0, .int .i64 0] = w6 := ⟨_, rfl⟩
    rw [hw6] at VF BR KA
    replace hw6 := Hid.mk hw6
    replace VF := Hid.mk VF
    replace KA := Hid.mk KA
    replace BR := Hid.mk BR
    refine wpAnyH_ready (rs := [8]) (by kernel_rfl) (by simp) ?_
    refine AllReadyH.cons (o := _) rfl (fun K0 hK0 => ?_) AllReadyH.nil
    rw [if_pos (by rfl)]
    refine wp_stroke w6 70 _ _ rfl (w.heap.size + 1) 0 #[.int .i64 6, .int .i64 v, .int .i64 0, .int .i64 0] rfl rfl HT.out (by kernel_rfl) (by kernel_rfl) hw6.out ?_
    refine hK0.out _ _ KA.out (fun hHeld => ?_)
    clear hK0 K0 hHeld KA HT
    refine wpAnyH_done (by kernel_rfl) ?_ _
    go_wp2
    refine bodyPost_ret (v := .agg #[.int .i64 6, .int .i64 v, .int .i64 0, .int .i64 0]) (results_row Tryz.results62 _ _ (w.heap.size + 1) [.int .i64 6, .int .i64 v, .int .i64 0, .int .i64 0] _ rfl VF.out Tryz.underlying70 rfl (by kernel_rfl)) rfl ⟨⟨6, v, 0, 0⟩, rfl, rfl, BR.out⟩
  · rw [hr]
    obtain ⟨o, a, b, n⟩ := t
    simp only at *
    obtain ⟨a0, a1⟩ := ha (by omega)
    obtain ⟨i, rfl⟩ : ∃ i : Nat, a = (i : Int) := ⟨a.toNat, by omega⟩
    obtain ⟨bl, off, rfl, p0⟩ := hRl i (by omega)
    obtain ⟨b0, b1⟩ := hb (by omega)
    obtain ⟨j, rfl⟩ : ∃ j : Nat, b = (j : Int) := ⟨b.toNat, by omega⟩
    obtain ⟨bl', off', e9, p1⟩ := hRl j (by omega)
    simp only [Option.some.injEq, Addr.mk.injEq, and_true] at e9
    obtain ⟨rfl, rfl⟩ := e9
    subst h4
    clear hr hRl hR ha hb h hk
    generalize pl i = v at *
    generalize pl j = u at *
    have CB := Hid.mk (bothOf_ok v u)
    generalize min v u = v' at *
    generalize max v u = u' at *
    go_enter Tryz.func62, Tryz.ntmps62
    have B := Below.refl w.heap.size w
    replace B := thenB B (belowA w (.cells #[.int .i64 7, .int .i64 i, .int .i64 j, .int .i64 n] 70))
    have VX := V.new w [.int .i64 7, .int .i64 i, .int .i64 j, .int .i64 n] 70
    replace VX := VX.kept (belowA (w.alloc (.cells #[.int .i64 7, .int .i64 i, .int .i64 j, .int .i64 n] 70)) (.cells #[.int .i64 0, .int .i64 0, .int .i64 0, .int .i64 0] 70))
    replace B := thenB B (belowA (w.alloc (.cells #[.int .i64 7, .int .i64 i, .int .i64 j, .int .i64 n] 70)) (.cells #[.int .i64 0, .int .i64 0, .int .i64 0, .int .i64 0] 70))
    have VR : V ((w.alloc (.cells #[.int .i64 7, .int .i64 i, .int .i64 j, .int .i64 n] 70)).alloc (.cells #[.int .i64 0, .int .i64 0, .int .i64 0, .int .i64 0] 70)) (w.heap.size + 1) [.int .i64 0, .int .i64 0, .int .i64 0, .int .i64 0] := V.newAt _ _ _ _ (by simp)
    obtain ⟨s_VX, f_VX, z_VX⟩ := VX.open
    obtain ⟨s_VR, f_VR, z_VR⟩ := VR.open
    have Bo := B
    have hbl : bl < w.heap.size := World.block_lt_of_cell? _ _ p0
    replace p0 := ((bcell (belowA2 w (.cells #[.int .i64 7, .int .i64 i, .int .i64 j, .int .i64 n] 70) (.cells #[.int .i64 0, .int .i64 0, .int .i64 0, .int .i64 0] 70))).1 bl (off + i) hbl).trans p0
    replace p1 := ((bcell (belowA2 w (.cells #[.int .i64 7, .int .i64 i, .int .i64 j, .int .i64 n] 70) (.cells #[.int .i64 0, .int .i64 0, .int .i64 0, .int .i64 0] 70))).1 bl (off + j) hbl).trans p1
    have hi2 : i < L := by omega
    have hj2 : j < L := by omega
    clear s_VX f_VX z_VX s_VR f_VR z_VR
    have K : ∀ w' : World, Below ((w.alloc (.cells #[.int .i64 7, .int .i64 i, .int .i64 j, .int .i64 n] 70)).alloc (.cells #[.int .i64 0, .int .i64 0, .int .i64 0, .int .i64 0] 70)).heap.size ((w.alloc (.cells #[.int .i64 7, .int .i64 i, .int .i64 j, .int .i64 n] 70)).alloc (.cells #[.int .i64 0, .int .i64 0, .int .i64 0, .int .i64 0] 70)) w' → (w'.cell? ⟨w.heap.size, 0, none⟩ = some (.int .i64 7) ∧ w'.cell? ⟨w.heap.size, 1, none⟩ = some (.int .i64 i) ∧ w'.cell? ⟨w.heap.size, 2, none⟩ = some (.int .i64 j) ∧ w'.cell? ⟨w.heap.size, 3, none⟩ = some (.int .i64 n) ∧ w'.cell? ⟨bl, off + i, none⟩ = some (.int .i64 v) ∧ w'.cell? ⟨bl, off + j, none⟩ = some (.int .i64 u)) := fun w' h => ⟨(VX.kept h).2.1 0 (by simp), (VX.kept h).2.1 1 (by simp), (VX.kept h).2.1 2 (by simp), (VX.kept h).2.1 3 (by simp), ((bcell h).1 _ _ (by simp only [World.size_alloc]; omega)).trans p0, ((bcell h).1 _ _ (by simp only [World.size_alloc]; omega)).trans p1⟩
    have K := Hid.mk K
    obtain ⟨s_VX, f_VX, z_VX⟩ := VX.open
    obtain ⟨s_VR, f_VR, z_VR⟩ := VR.open
    go_wp2_with fail
    clear s_VX f_VX z_VX s_VR f_VR z_VR
    refine wp_region_held_drew (S := (fun w' => w'.cell? ⟨w.heap.size, 0, none⟩ = some (.int .i64 7) ∧ w'.cell? ⟨w.heap.size, 1, none⟩ = some (.int .i64 i) ∧ w'.cell? ⟨w.heap.size, 2, none⟩ = some (.int .i64 j) ∧ w'.cell? ⟨w.heap.size, 3, none⟩ = some (.int .i64 n) ∧ w'.cell? ⟨bl, off + i, none⟩ = some (.int .i64 v) ∧ w'.cell? ⟨bl, off + j, none⟩ = some (.int .i64 u))) (by kernel_rfl) (K.out _ (Below.refl _ _).drew) (fun hHeld => ?_)
    refine wpAnyH_take (i := 0) (oi := _) (v := ?vg21u1) rfl (by kernel_rfl) (by kernel_rfl) (by kernel_rfl) (fun _ _ _ h => h) (Or.inl ⟨by rfl, ?hyg21u1⟩) hHeld ?restg21u1
    case hyg21u1 => (intro w hSw; (try dsimp only at hSw); go_simp; first | done | with_reducible rfl)
    try simp only [Act.put, List.getElem_toArray, List.getElem_cons_zero, List.setIfInBounds_toArray, List.set_cons_zero, List.set_cons_succ]
    refine wpAnyH_take (i := 1) (oi := _) (v := ?vg21u2) rfl (by kernel_rfl) (by kernel_rfl) (by kernel_rfl) (fun _ _ _ h => h) (Or.inl ⟨by rfl, ?hyg21u2⟩) hHeld ?restg21u2
    case hyg21u2 => (intro w hSw; (try dsimp only at hSw); go_simp; first | done | with_reducible rfl)
    try simp only [Act.put, List.getElem_toArray, List.getElem_cons_zero, List.getElem_cons_succ, List.setIfInBounds_toArray, List.set_cons_zero, List.set_cons_succ]
    refine wpAnyH_take (i := 2) (oi := _) (v := ?vg21u3) rfl (by kernel_rfl) (by kernel_rfl) (by kernel_rfl) (fun _ _ _ h => h) (Or.inl ⟨by rfl, ?hyg21u3⟩) hHeld ?restg21u3
    case hyg21u3 => (intro w hSw; (try dsimp only at hSw); go_simp; first | done | with_reducible rfl)
    try simp only [Act.put, List.getElem_toArray, List.getElem_cons_zero, List.getElem_cons_succ, List.setIfInBounds_toArray, List.set_cons_zero, List.set_cons_succ]
    refine wpAnyH_take (i := 3) (oi := _) (v := ?vg21u4) rfl (by kernel_rfl) (by kernel_rfl) (by kernel_rfl) (fun _ _ _ h => h) (Or.inl ⟨by rfl, ?hyg21u4⟩) hHeld ?restg21u4
    case hyg21u4 => (intro w hSw; (try dsimp only at hSw); go_simp; first | done | with_reducible rfl)
    try simp only [Act.put, List.getElem_toArray, List.getElem_cons_zero, List.getElem_cons_succ, List.setIfInBounds_toArray, List.set_cons_zero, List.set_cons_succ]
    refine wpAnyH_take (i := 4) (oi := _) (v := ?vg21u5) rfl (by kernel_rfl) (by kernel_rfl) (by kernel_rfl) (fun _ _ _ h => h) (Or.inl ⟨by rfl, ?hyg21u5⟩) hHeld ?restg21u5
    case hyg21u5 => (intro w hSw; (try dsimp only at hSw); go_simp; first | done | with_reducible rfl)
    try simp only [Act.put, List.getElem_toArray, List.getElem_cons_zero, List.getElem_cons_succ, List.setIfInBounds_toArray, List.set_cons_zero, List.set_cons_succ]
    refine wpAnyH_take (i := 5) (oi := _) (v := ?vg21u6) rfl (by kernel_rfl) (by kernel_rfl) (by kernel_rfl) (fun _ _ _ h => h) (Or.inl ⟨by rfl, ?hyg21u6⟩) hHeld ?restg21u6
    case hyg21u6 => (intro w hSw; (try dsimp only at hSw); go_simp; first | done | with_reducible rfl)
    try simp only [Act.put, List.getElem_toArray, List.getElem_cons_zero, List.getElem_cons_succ, List.setIfInBounds_toArray, List.set_cons_zero, List.set_cons_succ]
    refine wpAnyH_take (i := 6) (oi := _) (v := ?vg21u7) rfl (by kernel_rfl) (by kernel_rfl) (by kernel_rfl) (fun _ _ _ h => h) (Or.inl ⟨by rfl, ?hyg21u7⟩) hHeld ?restg21u7
    case hyg21u7 => (intro w hSw; (try dsimp only at hSw); go_simp; first | done | with_reducible rfl)
    try simp only [Act.put, List.getElem_toArray, List.getElem_cons_zero, List.getElem_cons_succ, List.setIfInBounds_toArray, List.set_cons_zero, List.set_cons_succ]
    refine wpAnyH_take (i := 7) (oi := _) (v := ?vg21u8) rfl (by kernel_rfl) (by kernel_rfl) (by kernel_rfl) (fun _ _ _ h => h) (Or.inl ⟨by rfl, ?hyg21u8⟩) hHeld ?restg21u8
    case hyg21u8 => (intro w hSw; (try dsimp only at hSw); go_simp; first | done | with_reducible rfl)
    try simp only [Act.put, List.getElem_toArray, List.getElem_cons_zero, List.getElem_cons_succ, List.setIfInBounds_toArray, List.set_cons_zero, List.set_cons_succ]
    refine wpAnyH_take (i := 8) (oi := _) (v := ?vg21u9) rfl (by kernel_rfl) (by kernel_rfl) (by kernel_rfl) (fun _ _ _ h => h) (Or.inl ⟨by rfl, ?hyg21u9⟩) hHeld ?restg21u9
    case hyg21u9 => (intro w hSw; (try dsimp only at hSw); go_simp; first | done | with_reducible rfl)
    try simp only [Act.put, List.getElem_toArray, List.getElem_cons_zero, List.getElem_cons_succ, List.setIfInBounds_toArray, List.set_cons_zero, List.set_cons_succ]
    refine wpAnyH_take (i := 9) (oi := _) (v := ?vg21u10) rfl (by kernel_rfl) (by kernel_rfl) (by kernel_rfl) (fun _ _ _ h => h) (Or.inl ⟨by rfl, ?hyg21u10⟩) hHeld ?restg21u10
    case hyg21u10 => (intro w hSw; (try dsimp only at hSw); go_simp; first | done | with_reducible rfl)
    try simp only [Act.put, List.getElem_toArray, List.getElem_cons_zero, List.getElem_cons_succ, List.setIfInBounds_toArray, List.set_cons_zero, List.set_cons_succ]
    refine wpAnyH_ready (rs := [10]) (by kernel_rfl) (by simp) ?_
    refine AllReadyH.cons (o := _) rfl (fun K0 hK0 => ?_) AllReadyH.nil
    go_simp
    go_at_call 67
    refine (CB.out _).mono ?_
    rintro e wg21v11 ⟨rfl, bg21v11⟩
    refine hK0.out _ _ (K.out _ (thenB (Below.refl _ _).drew bg21v11)) (fun hHeld => ?_)
    clear hK0 K0
    try simp only [Act.put, List.getElem_toArray, List.getElem_cons_zero, List.getElem_cons_succ, List.setIfInBounds_toArray, List.set_cons_zero, List.set_cons_succ]
    have bacc : Below ((w.alloc (.cells #[.int .i64 7, .int .i64 i, .int .i64 j, .int .i64 n] 70)).alloc (.cells #[.int .i64 0, .int .i64 0, .int .i64 0, .int .i64 0] 70)).heap.size ((w.alloc (.cells #[.int .i64 7, .int .i64 i, .int .i64 j, .int .i64 n] 70)).alloc (.cells #[.int .i64 0, .int .i64 0, .int .i64 0, .int .i64 0] 70)) _ := (thenB (Below.refl _ _).drew bg21v11)
    replace VX := VX.kept bacc
    replace VR := VR.kept bacc
    replace B := thenB B bacc
    have Sz21 := bacc.size
    simp only [World.size_alloc] at Sz21
    have HT := Hid.mk VR.there
    have VF := VR.filled [.int .i64 7, .int .i64 v', .int .i64 u', .int .i64 0] rfl
    have KA : (World.setCells wg21v11 (w.heap.size + 1) 0 [.int .i64 7, .int .i64 v', .int .i64 u', .int .i64 0]).cell? ⟨w.heap.size, 0, none⟩ = some (.int .i64 7) ∧ (World.setCells wg21v11 (w.heap.size + 1) 0 [.int .i64 7, .int .i64 v', .int .i64 u', .int .i64 0]).cell? ⟨w.heap.size, 1, none⟩ = some (.int .i64 i) ∧ (World.setCells wg21v11 (w.heap.size + 1) 0 [.int .i64 7, .int .i64 v', .int .i64 u', .int .i64 0]).cell? ⟨w.heap.size, 2, none⟩ = some (.int .i64 j) ∧ (World.setCells wg21v11 (w.heap.size + 1) 0 [.int .i64 7, .int .i64 v', .int .i64 u', .int .i64 0]).cell? ⟨w.heap.size, 3, none⟩ = some (.int .i64 n) ∧ (World.setCells wg21v11 (w.heap.size + 1) 0 [.int .i64 7, .int .i64 v', .int .i64 u', .int .i64 0]).cell? ⟨bl, off + i, none⟩ = some (.int .i64 v) ∧ (World.setCells wg21v11 (w.heap.size + 1) 0 [.int .i64 7, .int .i64 v', .int .i64 u', .int .i64 0]).cell? ⟨bl, off + j, none⟩ = some (.int .i64 u) := ⟨(VX.apart (B := w.heap.size + 1) (by first | omega | (simp; omega)) 0 [.int .i64 7, .int .i64 v', .int .i64 u', .int .i64 0]).2.1 0 (by simp), (VX.apart (B := w.heap.size + 1) (by first | omega | (simp; omega)) 0 [.int .i64 7, .int .i64 v', .int .i64 u', .int .i64 0]).2.1 1 (by simp), (VX.apart (B := w.heap.size + 1) (by first | omega | (simp; omega)) 0 [.int .i64 7, .int .i64 v', .int .i64 u', .int .i64 0]).2.1 2 (by simp), (VX.apart (B := w.heap.size + 1) (by first | omega | (simp; omega)) 0 [.int .i64 7, .int .i64 v', .int .i64 u', .int .i64 0]).2.1 3 (by simp), (cells_far (by omega) 0 [.int .i64 7, .int .i64 v', .int .i64 u', .int .i64 0]).trans (((bcell bacc).1 _ _ (by simp only [World.size_alloc]; omega)).trans p0), (cells_far (by omega) 0 [.int .i64 7, .int .i64 v', .int .i64 u', .int .i64 0]).trans (((bcell bacc).1 _ _ (by simp only [World.size_alloc]; omega)).trans p1)⟩
    have BR := belowCells B (show w.heap.size ≤ w.heap.size + 1 by (first | omega | (simp; done) | (simp; omega))) 0 [.int .i64 7, .int .i64 v', .int .i64 u', .int .i64 0]
    obtain ⟨w6, hw6⟩ : ∃ w6, World.setCells wg21v11 (w.heap.size + 1) 0 [.int .i64 7, .int .i64 v', .int .i64 u', .int .i64 0] = w6 := ⟨_, rfl⟩
    rw [hw6] at VF BR KA
    replace hw6 := Hid.mk hw6
    replace VF := Hid.mk VF
    replace KA := Hid.mk KA
    replace BR := Hid.mk BR
    refine wpAnyH_ready (rs := [11]) (by kernel_rfl) (by simp) ?_
    refine AllReadyH.cons (o := _) rfl (fun K0 hK0 => ?_) AllReadyH.nil
    rw [if_pos (by rfl)]
    refine wp_stroke w6 70 _ _ rfl (w.heap.size + 1) 0 #[.int .i64 7, .int .i64 v', .int .i64 u', .int .i64 0] rfl rfl HT.out (by kernel_rfl) (by kernel_rfl) hw6.out ?_
    refine hK0.out _ _ KA.out (fun hHeld => ?_)
    clear hK0 K0 hHeld KA HT
    refine wpAnyH_done (by kernel_rfl) ?_ _
    go_wp2
    refine bodyPost_ret (v := .agg #[.int .i64 7, .int .i64 v', .int .i64 u', .int .i64 0]) (results_row Tryz.results62 _ _ (w.heap.size + 1) [.int .i64 7, .int .i64 v', .int .i64 u', .int .i64 0] _ rfl VF.out Tryz.underlying70 rfl (by kernel_rfl)) rfl ⟨⟨7, v', u', 0⟩, rfl, rfl, BR.out⟩
  · rw [hr]
    obtain ⟨o, a, b, n⟩ := t
    simp only at *
    obtain ⟨a0, a1⟩ := ha (by omega)
    obtain ⟨i, rfl⟩ : ∃ i : Nat, a = (i : Int) := ⟨a.toNat, by omega⟩
    obtain ⟨bl, off, rfl, p0⟩ := hRl i (by omega)
    obtain ⟨b0, b1⟩ := hb (by omega)
    obtain ⟨j, rfl⟩ : ∃ j : Nat, b = (j : Int) := ⟨b.toNat, by omega⟩
    obtain ⟨bl', off', e9, p1⟩ := hRl j (by omega)
    simp only [Option.some.injEq, Addr.mk.injEq, and_true] at e9
    obtain ⟨rfl, rfl⟩ := e9
    clear hr hRl hR ha hb h hk
    generalize pl i = v at *
    generalize pl j = u at *
    go_enter Tryz.func62, Tryz.ntmps62
    have B := Below.refl w.heap.size w
    replace B := thenB B (belowA w (.cells #[.int .i64 o, .int .i64 i, .int .i64 j, .int .i64 n] 70))
    have VX := V.new w [.int .i64 o, .int .i64 i, .int .i64 j, .int .i64 n] 70
    replace VX := VX.kept (belowA (w.alloc (.cells #[.int .i64 o, .int .i64 i, .int .i64 j, .int .i64 n] 70)) (.cells #[.int .i64 0, .int .i64 0, .int .i64 0, .int .i64 0] 70))
    replace B := thenB B (belowA (w.alloc (.cells #[.int .i64 o, .int .i64 i, .int .i64 j, .int .i64 n] 70)) (.cells #[.int .i64 0, .int .i64 0, .int .i64 0, .int .i64 0] 70))
    have VR : V ((w.alloc (.cells #[.int .i64 o, .int .i64 i, .int .i64 j, .int .i64 n] 70)).alloc (.cells #[.int .i64 0, .int .i64 0, .int .i64 0, .int .i64 0] 70)) (w.heap.size + 1) [.int .i64 0, .int .i64 0, .int .i64 0, .int .i64 0] := V.newAt _ _ _ _ (by simp)
    obtain ⟨s_VX, f_VX, z_VX⟩ := VX.open
    obtain ⟨s_VR, f_VR, z_VR⟩ := VR.open
    have Bo := B
    have hbl : bl < w.heap.size := World.block_lt_of_cell? _ _ p0
    replace p0 := ((bcell (belowA2 w (.cells #[.int .i64 o, .int .i64 i, .int .i64 j, .int .i64 n] 70) (.cells #[.int .i64 0, .int .i64 0, .int .i64 0, .int .i64 0] 70))).1 bl (off + i) hbl).trans p0
    replace p1 := ((bcell (belowA2 w (.cells #[.int .i64 o, .int .i64 i, .int .i64 j, .int .i64 n] 70) (.cells #[.int .i64 0, .int .i64 0, .int .i64 0, .int .i64 0] 70))).1 bl (off + j) hbl).trans p1
    have hi2 : i < L := by omega
    have hj2 : j < L := by omega
    clear s_VX f_VX z_VX s_VR f_VR z_VR
    have K : ∀ w' : World, Below ((w.alloc (.cells #[.int .i64 o, .int .i64 i, .int .i64 j, .int .i64 n] 70)).alloc (.cells #[.int .i64 0, .int .i64 0, .int .i64 0, .int .i64 0] 70)).heap.size ((w.alloc (.cells #[.int .i64 o, .int .i64 i, .int .i64 j, .int .i64 n] 70)).alloc (.cells #[.int .i64 0, .int .i64 0, .int .i64 0, .int .i64 0] 70)) w' → (w'.cell? ⟨w.heap.size, 0, none⟩ = some (.int .i64 o) ∧ w'.cell? ⟨w.heap.size, 1, none⟩ = some (.int .i64 i) ∧ w'.cell? ⟨w.heap.size, 2, none⟩ = some (.int .i64 j) ∧ w'.cell? ⟨w.heap.size, 3, none⟩ = some (.int .i64 n) ∧ w'.cell? ⟨bl, off + i, none⟩ = some (.int .i64 v) ∧ w'.cell? ⟨bl, off + j, none⟩ = some (.int .i64 u)) := fun w' h => ⟨(VX.kept h).2.1 0 (by simp), (VX.kept h).2.1 1 (by simp), (VX.kept h).2.1 2 (by simp), (VX.kept h).2.1 3 (by simp), ((bcell h).1 _ _ (by simp only [World.size_alloc]; omega)).trans p0, ((bcell h).1 _ _ (by simp only [World.size_alloc]; omega)).trans p1⟩
    have K := Hid.mk K
    obtain ⟨s_VX, f_VX, z_VX⟩ := VX.open
    obtain ⟨s_VR, f_VR, z_VR⟩ := VR.open
    go_wp2_with fail
    clear s_VX f_VX z_VX s_VR f_VR z_VR
    refine wp_region_held_drew (S := (fun w' => w'.cell? ⟨w.heap.size, 0, none⟩ = some (.int .i64 o) ∧ w'.cell? ⟨w.heap.size, 1, none⟩ = some (.int .i64 i) ∧ w'.cell? ⟨w.heap.size, 2, none⟩ = some (.int .i64 j) ∧ w'.cell? ⟨w.heap.size, 3, none⟩ = some (.int .i64 n) ∧ w'.cell? ⟨bl, off + i, none⟩ = some (.int .i64 v) ∧ w'.cell? ⟨bl, off + j, none⟩ = some (.int .i64 u))) (by kernel_rfl) (K.out _ (Below.refl _ _).drew) (fun hHeld => ?_)
    refine wpAnyH_take (i := 0) (oi := _) (v := ?vg41u1) rfl (by kernel_rfl) (by kernel_rfl) (by kernel_rfl) (fun _ _ _ h => h) (Or.inl ⟨by rfl, ?hyg41u1⟩) hHeld ?restg41u1
    case hyg41u1 => (intro w hSw; (try dsimp only at hSw); go_simp; first | done | with_reducible rfl)
    try simp only [Act.put, List.getElem_toArray, List.getElem_cons_zero, List.setIfInBounds_toArray, List.set_cons_zero, List.set_cons_succ]
    refine wpAnyH_take (i := 1) (oi := _) (v := ?vg41u2) rfl (by kernel_rfl) (by kernel_rfl) (by kernel_rfl) (fun _ _ _ h => h) (Or.inl ⟨by rfl, ?hyg41u2⟩) hHeld ?restg41u2
    case hyg41u2 => (intro w hSw; (try dsimp only at hSw); go_simp; first | done | with_reducible rfl)
    try simp only [Act.put, List.getElem_toArray, List.getElem_cons_zero, List.getElem_cons_succ, List.setIfInBounds_toArray, List.set_cons_zero, List.set_cons_succ]
    refine wpAnyH_take (i := 2) (oi := _) (v := ?vg41u3) rfl (by kernel_rfl) (by kernel_rfl) (by kernel_rfl) (fun _ _ _ h => h) (Or.inl ⟨by rfl, ?hyg41u3⟩) hHeld ?restg41u3
    case hyg41u3 => (intro w hSw; (try dsimp only at hSw); go_simp; first | done | with_reducible rfl)
    try simp only [Act.put, List.getElem_toArray, List.getElem_cons_zero, List.getElem_cons_succ, List.setIfInBounds_toArray, List.set_cons_zero, List.set_cons_succ]
    refine wpAnyH_take (i := 3) (oi := _) (v := ?vg41u4) rfl (by kernel_rfl) (by kernel_rfl) (by kernel_rfl) (fun _ _ _ h => h) (Or.inl ⟨by rfl, ?hyg41u4⟩) hHeld ?restg41u4
    case hyg41u4 => (intro w hSw; (try dsimp only at hSw); go_simp; first | done | with_reducible rfl)
    try simp only [Act.put, List.getElem_toArray, List.getElem_cons_zero, List.getElem_cons_succ, List.setIfInBounds_toArray, List.set_cons_zero, List.set_cons_succ]
    refine wpAnyH_take (i := 4) (oi := _) (v := ?vg41u5) rfl (by kernel_rfl) (by kernel_rfl) (by kernel_rfl) (fun _ _ _ h => h) (Or.inl ⟨by rfl, ?hyg41u5⟩) hHeld ?restg41u5
    case hyg41u5 => (intro w hSw; (try dsimp only at hSw); go_simp; first | done | with_reducible rfl)
    try simp only [Act.put, List.getElem_toArray, List.getElem_cons_zero, List.getElem_cons_succ, List.setIfInBounds_toArray, List.set_cons_zero, List.set_cons_succ]
    refine wpAnyH_take (i := 5) (oi := _) (v := ?vg41u6) rfl (by kernel_rfl) (by kernel_rfl) (by kernel_rfl) (fun _ _ _ h => h) (Or.inl ⟨by rfl, ?hyg41u6⟩) hHeld ?restg41u6
    case hyg41u6 => (intro w hSw; (try dsimp only at hSw); go_simp; first | done | with_reducible rfl)
    try simp only [Act.put, List.getElem_toArray, List.getElem_cons_zero, List.getElem_cons_succ, List.setIfInBounds_toArray, List.set_cons_zero, List.set_cons_succ]
    refine wpAnyH_take (i := 6) (oi := _) (v := ?vg41u7) rfl (by kernel_rfl) (by kernel_rfl) (by kernel_rfl) (fun _ _ _ h => h) (Or.inl ⟨by rfl, ?hyg41u7⟩) hHeld ?restg41u7
    case hyg41u7 => (intro w hSw; (try dsimp only at hSw); go_simp; first | done | with_reducible rfl)
    try simp only [Act.put, List.getElem_toArray, List.getElem_cons_zero, List.getElem_cons_succ, List.setIfInBounds_toArray, List.set_cons_zero, List.set_cons_succ]
    refine wpAnyH_take (i := 7) (oi := _) (v := ?vg41u8) rfl (by kernel_rfl) (by kernel_rfl) (by kernel_rfl) (fun _ _ _ h => h) (Or.inl ⟨by rfl, ?hyg41u8⟩) hHeld ?restg41u8
    case hyg41u8 => (intro w hSw; (try dsimp only at hSw); go_simp; first | done | with_reducible rfl)
    try simp only [Act.put, List.getElem_toArray, List.getElem_cons_zero, List.getElem_cons_succ, List.setIfInBounds_toArray, List.set_cons_zero, List.set_cons_succ]
    refine wpAnyH_take (i := 8) (oi := _) (v := ?vg41u9) rfl (by kernel_rfl) (by kernel_rfl) (by kernel_rfl) (fun _ _ _ h => h) (Or.inl ⟨by rfl, ?hyg41u9⟩) hHeld ?restg41u9
    case hyg41u9 => (intro w hSw; (try dsimp only at hSw); go_simp; first | done | with_reducible rfl)
    try simp only [Act.put, List.getElem_toArray, List.getElem_cons_zero, List.getElem_cons_succ, List.setIfInBounds_toArray, List.set_cons_zero, List.set_cons_succ]
    refine wpAnyH_take (i := 9) (oi := _) (v := ?vg41u10) rfl (by kernel_rfl) (by kernel_rfl) (by kernel_rfl) (fun _ _ _ h => h) (Or.inl ⟨by rfl, ?hyg41u10⟩) hHeld ?restg41u10
    case hyg41u10 => (intro w hSw; (try dsimp only at hSw); go_simp; first | done | with_reducible rfl)
    try simp only [Act.put, List.getElem_toArray, List.getElem_cons_zero, List.getElem_cons_succ, List.setIfInBounds_toArray, List.set_cons_zero, List.set_cons_succ]
    refine wpAnyH_take (i := 10) (oi := _) (v := ?vg41u11) rfl (by kernel_rfl) (by kernel_rfl) (by kernel_rfl) (fun _ _ _ h => h) (Or.inl ⟨by rfl, ?hyg41u11⟩) hHeld ?restg41u11
    case hyg41u11 => (intro w hSw; (try dsimp only at hSw); go_simp; first | done | with_reducible rfl)
    try simp only [Act.put, List.getElem_toArray, List.getElem_cons_zero, List.getElem_cons_succ, List.setIfInBounds_toArray, List.set_cons_zero, List.set_cons_succ]
    refine wpAnyH_take (i := 11) (oi := _) (v := ?vg41u12) rfl (by kernel_rfl) (by kernel_rfl) (by kernel_rfl) (fun _ _ _ h => h) (Or.inl ⟨by rfl, ?hyg41u12⟩) hHeld ?restg41u12
    case hyg41u12 => (intro w hSw; (try dsimp only at hSw); go_simp; first | done | with_reducible rfl)
    try simp only [Act.put, List.getElem_toArray, List.getElem_cons_zero, List.getElem_cons_succ, List.setIfInBounds_toArray, List.set_cons_zero, List.set_cons_succ]
    refine wpAnyH_take (i := 12) (oi := _) (v := ?vg41u13) rfl (by kernel_rfl) (by kernel_rfl) (by kernel_rfl) (fun _ _ _ h => h) (Or.inl ⟨by rfl, ?hyg41u13⟩) hHeld ?restg41u13
    case hyg41u13 => (intro w hSw; (try dsimp only at hSw); go_simp; first | done | with_reducible rfl)
    try simp only [Act.put, List.getElem_toArray, List.getElem_cons_zero, List.getElem_cons_succ, List.setIfInBounds_toArray, List.set_cons_zero, List.set_cons_succ]
    have bacc : Below ((w.alloc (.cells #[.int .i64 o, .int .i64 i, .int .i64 j, .int .i64 n] 70)).alloc (.cells #[.int .i64 0, .int .i64 0, .int .i64 0, .int .i64 0] 70)).heap.size ((w.alloc (.cells #[.int .i64 o, .int .i64 i, .int .i64 j, .int .i64 n] 70)).alloc (.cells #[.int .i64 0, .int .i64 0, .int .i64 0, .int .i64 0] 70)) _ := (Below.refl _ _).drew
    replace VX := VX.kept bacc
    replace VR := VR.kept bacc
    replace B := thenB B bacc
    have Sz41 := bacc.size
    simp only [World.size_alloc] at Sz41
    have HT := Hid.mk VR.there
    have VF := VR.filled [.int .i64 o, .int .i64 v, .int .i64 u, .int .i64 0] rfl
    have KA : (World.setCells (((w.alloc (.cells #[.int .i64 o, .int .i64 i, .int .i64 j, .int .i64 n] 70)).alloc (.cells #[.int .i64 0, .int .i64 0, .int .i64 0, .int .i64 0] 70)).drew) (w.heap.size + 1) 0 [.int .i64 o, .int .i64 v, .int .i64 u, .int .i64 0]).cell? ⟨w.heap.size, 0, none⟩ = some (.int .i64 o) ∧ (World.setCells (((w.alloc (.cells #[.int .i64 o, .int .i64 i, .int .i64 j, .int .i64 n] 70)).alloc (.cells #[.int .i64 0, .int .i64 0, .int .i64 0, .int .i64 0] 70)).drew) (w.heap.size + 1) 0 [.int .i64 o, .int .i64 v, .int .i64 u, .int .i64 0]).cell? ⟨w.heap.size, 1, none⟩ = some (.int .i64 i) ∧ (World.setCells (((w.alloc (.cells #[.int .i64 o, .int .i64 i, .int .i64 j, .int .i64 n] 70)).alloc (.cells #[.int .i64 0, .int .i64 0, .int .i64 0, .int .i64 0] 70)).drew) (w.heap.size + 1) 0 [.int .i64 o, .int .i64 v, .int .i64 u, .int .i64 0]).cell? ⟨w.heap.size, 2, none⟩ = some (.int .i64 j) ∧ (World.setCells (((w.alloc (.cells #[.int .i64 o, .int .i64 i, .int .i64 j, .int .i64 n] 70)).alloc (.cells #[.int .i64 0, .int .i64 0, .int .i64 0, .int .i64 0] 70)).drew) (w.heap.size + 1) 0 [.int .i64 o, .int .i64 v, .int .i64 u, .int .i64 0]).cell? ⟨w.heap.size, 3, none⟩ = some (.int .i64 n) ∧ (World.setCells (((w.alloc (.cells #[.int .i64 o, .int .i64 i, .int .i64 j, .int .i64 n] 70)).alloc (.cells #[.int .i64 0, .int .i64 0, .int .i64 0, .int .i64 0] 70)).drew) (w.heap.size + 1) 0 [.int .i64 o, .int .i64 v, .int .i64 u, .int .i64 0]).cell? ⟨bl, off + i, none⟩ = some (.int .i64 v) ∧ (World.setCells (((w.alloc (.cells #[.int .i64 o, .int .i64 i, .int .i64 j, .int .i64 n] 70)).alloc (.cells #[.int .i64 0, .int .i64 0, .int .i64 0, .int .i64 0] 70)).drew) (w.heap.size + 1) 0 [.int .i64 o, .int .i64 v, .int .i64 u, .int .i64 0]).cell? ⟨bl, off + j, none⟩ = some (.int .i64 u) := ⟨(VX.apart (B := w.heap.size + 1) (by first | omega | (simp; omega)) 0 [.int .i64 o, .int .i64 v, .int .i64 u, .int .i64 0]).2.1 0 (by simp), (VX.apart (B := w.heap.size + 1) (by first | omega | (simp; omega)) 0 [.int .i64 o, .int .i64 v, .int .i64 u, .int .i64 0]).2.1 1 (by simp), (VX.apart (B := w.heap.size + 1) (by first | omega | (simp; omega)) 0 [.int .i64 o, .int .i64 v, .int .i64 u, .int .i64 0]).2.1 2 (by simp), (VX.apart (B := w.heap.size + 1) (by first | omega | (simp; omega)) 0 [.int .i64 o, .int .i64 v, .int .i64 u, .int .i64 0]).2.1 3 (by simp), (cells_far (by omega) 0 [.int .i64 o, .int .i64 v, .int .i64 u, .int .i64 0]).trans (((bcell bacc).1 _ _ (by simp only [World.size_alloc]; omega)).trans p0), (cells_far (by omega) 0 [.int .i64 o, .int .i64 v, .int .i64 u, .int .i64 0]).trans (((bcell bacc).1 _ _ (by simp only [World.size_alloc]; omega)).trans p1)⟩
    have BR := belowCells B (show w.heap.size ≤ w.heap.size + 1 by (first | omega | (simp; done) | (simp; omega))) 0 [.int .i64 o, .int .i64 v, .int .i64 u, .int .i64 0]
    obtain ⟨w6, hw6⟩ : ∃ w6, World.setCells (((w.alloc (.cells #[.int .i64 o, .int .i64 i, .int .i64 j, .int .i64 n] 70)).alloc (.cells #[.int .i64 0, .int .i64 0, .int .i64 0, .int .i64 0] 70)).drew) (w.heap.size + 1) 0 [.int .i64 o, .int .i64 v, .int .i64 u, .int .i64 0] = w6 := ⟨_, rfl⟩
    rw [hw6] at VF BR KA
    replace hw6 := Hid.mk hw6
    replace VF := Hid.mk VF
    replace KA := Hid.mk KA
    replace BR := Hid.mk BR
    refine wpAnyH_ready (rs := [13]) (by kernel_rfl) (by simp) ?_
    refine AllReadyH.cons (o := _) rfl (fun K0 hK0 => ?_) AllReadyH.nil
    rw [if_pos (by rfl)]
    refine wp_stroke w6 70 _ _ rfl (w.heap.size + 1) 0 #[.int .i64 o, .int .i64 v, .int .i64 u, .int .i64 0] rfl rfl HT.out (by kernel_rfl) (by kernel_rfl) hw6.out ?_
    refine hK0.out _ _ KA.out (fun hHeld => ?_)
    clear hK0 K0 hHeld KA HT
    refine wpAnyH_done (by kernel_rfl) ?_ _
    go_wp2
    refine bodyPost_ret (v := .agg #[.int .i64 o, .int .i64 v, .int .i64 u, .int .i64 0]) (results_row Tryz.results62 _ _ (w.heap.size + 1) [.int .i64 o, .int .i64 v, .int .i64 u, .int .i64 0] _ rfl VF.out Tryz.underlying70 rfl (by kernel_rfl)) rfl ⟨⟨o, v, u, 0⟩, rfl, rfl, BR.out⟩

end Go.Proofs.YtfldgeokigcokaaGreat
