/- Put together: MvB, MvC, MvE, MvD, MvF. -/
import Derived.Test.YtfldgeokigcokaaGreatMvA
import Derived.Test.YtfldgeokigcokaaGreatTmK
import Derived.Test.YtfldgeokigcokaaGreatFWq
import Derived.Test.YtfldgeokigcokaaGreatFWf
import Derived.Test.YtfldgeokigcokaaGreatFWo
import Derived.Test.YtfldgeokigcokaaGreatFWt
import Derived.Test.YtfldgeokigcokaaGreatFWh

/- withPlaces. -/
namespace Go.Proofs.YtfldgeokigcokaaGreat
open Go.RowKit

set_option maxRecDepth 20000 in
set_option maxHeartbeats 4000000 in
theorem withPlaces_ok (t : T4) (h : 1 ≤ t.o ∧ t.o ≤ 7) (pl : Int → Int) (L : Nat) (c : Option Addr) (d : Nat) (w : World) (hR : Rd .i64 w c (tab L pl)) (ha : 0 < kids t.o → 0 ≤ t.a ∧ t.a < L) (hb : 1 < kids t.o → 0 ≤ t.b ∧ t.b < L) :
    Calls Tryz.prog 62 #[.agg #[.int .i64 t.o, .int .i64 t.a, .int .i64 t.b, .int .i64 t.n], .slice c L d] w fun e w' => ∃ r : T4, r = mvT t pl ∧ e = .returned (.agg #[.int .i64 r.o, .int .i64 r.a, .int .i64 r.b, .int .i64 r.n]) ∧ Below w.heap.size w w' := by
  have q2 := build_t2
  have q3 := build_t3
  have hRl : ∀ i : Nat, i < L → ∃ b o, c = some ⟨b, o, none⟩ ∧ w.cell? ⟨b, o + i, none⟩ = some (.int .i64 (pl i)) := fun i hi => by
    rcases hR with hR | ⟨b, o, rfl, hca⟩
    · have := tab_len L pl; rw [hR] at this; simp at this; omega
    · have := hca i (by rw [tab_len]; exact hi)
      rw [tab_at pl hi] at this
      exact ⟨b, o, rfl, this⟩
  rcases mvT_ways h pl with ⟨h1, hr⟩ | ⟨h1, h2, hr⟩ | ⟨h1, h2, h3, hk, hr⟩ | ⟨h1, h2, h3, h4, hk, hr⟩ | ⟨h1, h2, h3, h4, hk, hr⟩
  · rw [hr]
    obtain ⟨o, a, b, n⟩ := t
    simp only at *
    subst h1
    clear hRl hR ha hb h
    go_enter Tryz.func62, Tryz.ntmps62
    go_wp2
    refine bodyPost_ret (v := .agg #[.int .i64 1, .int .i64 a, .int .i64 b, .int .i64 n]) (by simp [results, Tryz.results62, go_sem]) rfl ⟨⟨1, a, b, n⟩, rfl, rfl, ?_⟩
    repeat' (first | exact Below.refl _ _ | refine Below.alloc ?_ (by simp) _ | refine Below.setCell ?_ (by simp) _ | refine Below.drew ?_)
  · rw [hr]
    obtain ⟨o, a, b, n⟩ := t
    simp only at *
    subst h2
    clear hRl hR ha hb h
    go_enter Tryz.func62, Tryz.ntmps62
    go_wp2
    refine bodyPost_ret (v := .agg #[.int .i64 2, .int .i64 a, .int .i64 b, .int .i64 n]) (by simp [results, Tryz.results62, go_sem]) rfl ⟨⟨2, a, b, n⟩, rfl, rfl, ?_⟩
    repeat' (first | exact Below.refl _ _ | refine Below.alloc ?_ (by simp) _ | refine Below.setCell ?_ (by simp) _ | refine Below.drew ?_)
  · rw [hr]
    obtain ⟨o, a, b, n⟩ := t
    simp only at *
    obtain ⟨a0, a1⟩ := ha (by omega)
    obtain ⟨i, rfl⟩ : ∃ i : Nat, a = (i : Int) := ⟨a.toNat, by omega⟩
    obtain ⟨bl, off, rfl, p0⟩ := hRl i (by omega)
    subst h3
    clear hr hRl hR ha hb h hk
    generalize pl i = v at *
    go_enter Tryz.func62, Tryz.ntmps62
    have B := Below.refl w.heap.size w
    replace B := thenB B (belowA w (.cells #[.int .i64 6, .int .i64 i, .int .i64 b, .int .i64 n] 70))
    have VX := V.new w [.int .i64 6, .int .i64 i, .int .i64 b, .int .i64 n] 70
    replace VX := VX.kept (belowA (w.alloc (.cells #[.int .i64 6, .int .i64 i, .int .i64 b, .int .i64 n] 70)) (.cells #[.int .i64 0, .int .i64 0, .int .i64 0, .int .i64 0] 70))
    replace B := thenB B (belowA (w.alloc (.cells #[.int .i64 6, .int .i64 i, .int .i64 b, .int .i64 n] 70)) (.cells #[.int .i64 0, .int .i64 0, .int .i64 0, .int .i64 0] 70))
    have VR : V ((w.alloc (.cells #[.int .i64 6, .int .i64 i, .int .i64 b, .int .i64 n] 70)).alloc (.cells #[.int .i64 0, .int .i64 0, .int .i64 0, .int .i64 0] 70)) (w.heap.size + 1) [.int .i64 0, .int .i64 0, .int .i64 0, .int .i64 0] := V.newAt _ _ _ _ (by simp)
    obtain ⟨s_VX, f_VX, z_VX⟩ := VX.open
    obtain ⟨s_VR, f_VR, z_VR⟩ := VR.open
    have Bo := B
    have hbl : bl < w.heap.size := World.block_lt_of_cell? _ _ p0
    replace p0 := ((bcell (belowA2 w (.cells #[.int .i64 6, .int .i64 i, .int .i64 b, .int .i64 n] 70) (.cells #[.int .i64 0, .int .i64 0, .int .i64 0, .int .i64 0] 70))).1 bl (off + i) hbl).trans p0
    have hi2 : i < L := by omega
    clear s_VX f_VX z_VX s_VR f_VR z_VR
    have K : ∀ w' : World, Below ((w.alloc (.cells #[.int .i64 6, .int .i64 i, .int .i64 b, .int .i64 n] 70)).alloc (.cells #[.int .i64 0, .int .i64 0, .int .i64 0, .int .i64 0] 70)).heap.size ((w.alloc (.cells #[.int .i64 6, .int .i64 i, .int .i64 b, .int .i64 n] 70)).alloc (.cells #[.int .i64 0, .int .i64 0, .int .i64 0, .int .i64 0] 70)) w' → (w'.cell? ⟨w.heap.size, 0, none⟩ = some (.int .i64 6) ∧ w'.cell? ⟨w.heap.size, 1, none⟩ = some (.int .i64 i) ∧ w'.cell? ⟨w.heap.size, 2, none⟩ = some (.int .i64 b) ∧ w'.cell? ⟨w.heap.size, 3, none⟩ = some (.int .i64 n) ∧ w'.cell? ⟨bl, off + i, none⟩ = some (.int .i64 v)) := fun w' h => ⟨(VX.kept h).2.1 0 (by simp), (VX.kept h).2.1 1 (by simp), (VX.kept h).2.1 2 (by simp), (VX.kept h).2.1 3 (by simp), ((bcell h).1 _ _ (by simp only [World.size_alloc]; omega)).trans p0⟩
    have K := Hid.mk K
    obtain ⟨s_VX, f_VX, z_VX⟩ := VX.open
    obtain ⟨s_VR, f_VR, z_VR⟩ := VR.open
    go_wp2_with fail
    clear s_VX f_VX z_VX s_VR f_VR z_VR
    refine wp_region_held_drew (S := (fun w' => w'.cell? ⟨w.heap.size, 0, none⟩ = some (.int .i64 6) ∧ w'.cell? ⟨w.heap.size, 1, none⟩ = some (.int .i64 i) ∧ w'.cell? ⟨w.heap.size, 2, none⟩ = some (.int .i64 b) ∧ w'.cell? ⟨w.heap.size, 3, none⟩ = some (.int .i64 n) ∧ w'.cell? ⟨bl, off + i, none⟩ = some (.int .i64 v))) (by kernel_rfl) (K.out _ (Below.refl _ _).drew) (fun hHeld => ?_)
    refine wpAnyH_take (i := 0) (oi := _) (v := ?vg1u1) rfl (by kernel_rfl) (by kernel_rfl) (by kernel_rfl) (fun _ _ _ h => h) (Or.inl ⟨by rfl, ?hyg1u1⟩) hHeld ?restg1u1
    case hyg1u1 => (intro w hSw; (try dsimp only at hSw); go_simp; first | done | with_reducible rfl)
    try simp only [Act.put, List.getElem_toArray, List.getElem_cons_zero, List.setIfInBounds_toArray, List.set_cons_zero, List.set_cons_succ]
    refine wpAnyH_take (i := 1) (oi := _) (v := ?vg1u2) rfl (by kernel_rfl) (by kernel_rfl) (by kernel_rfl) (fun _ _ _ h => h) (Or.inl ⟨by rfl, ?hyg1u2⟩) hHeld ?restg1u2
    case hyg1u2 => (intro w hSw; (try dsimp only at hSw); go_simp; first | done | with_reducible rfl)
    try simp only [Act.put, List.getElem_toArray, List.getElem_cons_zero, List.getElem_cons_succ, List.setIfInBounds_toArray, List.set_cons_zero, List.set_cons_succ]
    refine wpAnyH_take (i := 2) (oi := _) (v := ?vg1u3) rfl (by kernel_rfl) (by kernel_rfl) (by kernel_rfl) (fun _ _ _ h => h) (Or.inl ⟨by rfl, ?hyg1u3⟩) hHeld ?restg1u3
    case hyg1u3 => (intro w hSw; (try dsimp only at hSw); go_simp; first | done | with_reducible rfl)
    try simp only [Act.put, List.getElem_toArray, List.getElem_cons_zero, List.getElem_cons_succ, List.setIfInBounds_toArray, List.set_cons_zero, List.set_cons_succ]
    refine wpAnyH_take (i := 3) (oi := _) (v := ?vg1u4) rfl (by kernel_rfl) (by kernel_rfl) (by kernel_rfl) (fun _ _ _ h => h) (Or.inl ⟨by rfl, ?hyg1u4⟩) hHeld ?restg1u4
    case hyg1u4 => (intro w hSw; (try dsimp only at hSw); go_simp; first | done | with_reducible rfl)
    try simp only [Act.put, List.getElem_toArray, List.getElem_cons_zero, List.getElem_cons_succ, List.setIfInBounds_toArray, List.set_cons_zero, List.set_cons_succ]
    refine wpAnyH_take (i := 4) (oi := _) (v := ?vg1u5) rfl (by kernel_rfl) (by kernel_rfl) (by kernel_rfl) (fun _ _ _ h => h) (Or.inl ⟨by rfl, ?hyg1u5⟩) hHeld ?restg1u5
    case hyg1u5 => (intro w hSw; (try dsimp only at hSw); go_simp; first | done | with_reducible rfl)
    try simp only [Act.put, List.getElem_toArray, List.getElem_cons_zero, List.getElem_cons_succ, List.setIfInBounds_toArray, List.set_cons_zero, List.set_cons_succ]
    refine wpAnyH_take (i := 5) (oi := _) (v := ?vg1u6) rfl (by kernel_rfl) (by kernel_rfl) (by kernel_rfl) (fun _ _ _ h => h) (Or.inl ⟨by rfl, ?hyg1u6⟩) hHeld ?restg1u6
    case hyg1u6 => (intro w hSw; (try dsimp only at hSw); go_simp; first | done | with_reducible rfl)
    try simp only [Act.put, List.getElem_toArray, List.getElem_cons_zero, List.getElem_cons_succ, List.setIfInBounds_toArray, List.set_cons_zero, List.set_cons_succ]
    refine wpAnyH_take (i := 6) (oi := _) (v := ?vg1u7) rfl (by kernel_rfl) (by kernel_rfl) (by kernel_rfl) (fun _ _ _ h => h) (Or.inl ⟨by rfl, ?hyg1u7⟩) hHeld ?restg1u7
    case hyg1u7 => (intro w hSw; (try dsimp only at hSw); go_simp; first | done | with_reducible rfl)
    try simp only [Act.put, List.getElem_toArray, List.getElem_cons_zero, List.getElem_cons_succ, List.setIfInBounds_toArray, List.set_cons_zero, List.set_cons_succ]
    refine wpAnyH_take (i := 7) (oi := _) (v := ?vg1u8) rfl (by kernel_rfl) (by kernel_rfl) (by kernel_rfl) (fun _ _ _ h => h) (Or.inl ⟨by rfl, ?hyg1u8⟩) hHeld ?restg1u8
    case hyg1u8 => (intro w hSw; (try dsimp only at hSw); go_simp; first | done | with_reducible rfl)
    try simp only [Act.put, List.getElem_toArray, List.getElem_cons_zero, List.getElem_cons_succ, List.setIfInBounds_toArray, List.set_cons_zero, List.set_cons_succ]
    have bacc : Below ((w.alloc (.cells #[.int .i64 6, .int .i64 i, .int .i64 b, .int .i64 n] 70)).alloc (.cells #[.int .i64 0, .int .i64 0, .int .i64 0, .int .i64 0] 70)).heap.size ((w.alloc (.cells #[.int .i64 6, .int .i64 i, .int .i64 b, .int .i64 n] 70)).alloc (.cells #[.int .i64 0, .int .i64 0, .int .i64 0, .int .i64 0] 70)) _ := (Below.refl _ _).drew
    replace VX := VX.kept bacc
    replace VR := VR.kept bacc
    replace B := thenB B bacc
    have Sz1 := bacc.size
    simp only [World.size_alloc] at Sz1
    have HT := Hid.mk VR.there
    have VF := VR.filled [.int .i64 6, .int .i64 v, .int .i64 0, .int .i64 0] rfl
    have KA : (World.setCells (((w.alloc (.cells #[.int .i64 6, .int .i64 i, .int .i64 b, .int .i64 n] 70)).alloc (.cells #[.int .i64 0, .int .i64 0, .int .i64 0, .int .i64 0] 70)).drew) (w.heap.size + 1) 0 [.int .i64 6, .int .i64 v, .int .i64 0, .int .i64 0]).cell? ⟨w.heap.size, 0, none⟩ = some (.int .i64 6) ∧ (World.setCells (((w.alloc (.cells #[.int .i64 6, .int .i64 i, .int .i64 b, .int .i64 n] 70)).alloc (.cells #[.int .i64 0, .int .i64 0, .int .i64 0, .int .i64 0] 70)).drew) (w.heap.size + 1) 0 [.int .i64 6, .int .i64 v, .int .i64 0, .int .i64 0]).cell? ⟨w.heap.size, 1, none⟩ = some (.int .i64 i) ∧ (World.setCells (((w.alloc (.cells #[.int .i64 6, .int .i64 i, .int .i64 b, .int .i64 n] 70)).alloc (.cells #[.int .i64 0, .int .i64 0, .int .i64 0, .int .i64 0] 70)).drew) (w.heap.size + 1) 0 [.int .i64 6, .int .i64 v, .int .i64 0, .int .i64 0]).cell? ⟨w.heap.size, 2, none⟩ = some (.int .i64 b) ∧ (World.setCells (((w.alloc (.cells #[.int .i64 6, .int .i64 i, .int .i64 b, .int .i64 n] 70)).alloc (.cells #[.int .i64 0, .int .i64 0, .int .i64 0, .int .i64 0] 70)).drew) (w.heap.size + 1) 0 [.int .i64 6, .int .i64 v, .int .i64 0, .int .i64 0]).cell? ⟨w.heap.size, 3, none⟩ = some (.int .i64 n) ∧ (World.setCells (((w.alloc (.cells #[.int .i64 6, .int .i64 i, .int .i64 b, .int .i64 n] 70)).alloc (.cells #[.int .i64 0, .int .i64 0, .int .i64 0, .int .i64 0] 70)).drew) (w.heap.size + 1) 0 [.int .i64 6, .int .i64 v, .int .i64 0, .int .i64 0]).cell? ⟨bl, off + i, none⟩ = some (.int .i64 v) := ⟨(VX.apart (B := w.heap.size + 1) (by first | omega | (simp; omega)) 0 [.int .i64 6, .int .i64 v, .int .i64 0, .int .i64 0]).2.1 0 (by simp), (VX.apart (B := w.heap.size + 1) (by first | omega | (simp; omega)) 0 [.int .i64 6, .int .i64 v, .int .i64 0, .int .i64 0]).2.1 1 (by simp), (VX.apart (B := w.heap.size + 1) (by first | omega | (simp; omega)) 0 [.int .i64 6, .int .i64 v, .int .i64 0, .int .i64 0]).2.1 2 (by simp), (VX.apart (B := w.heap.size + 1) (by first | omega | (simp; omega)) 0 [.int .i64 6, .int .i64 v, .int .i64 0, .int .i64 0]).2.1 3 (by simp), (cells_far (by omega) 0 [.int .i64 6, .int .i64 v, .int .i64 0, .int .i64 0]).trans (((bcell bacc).1 _ _ (by simp only [World.size_alloc]; omega)).trans p0)⟩
    have BR := belowCells B (show w.heap.size ≤ w.heap.size + 1 by (first | omega | (simp; done) | (simp; omega))) 0 [.int .i64 6, .int .i64 v, .int .i64 0, .int .i64 0]
    obtain ⟨w6, hw6⟩ : ∃ w6, World.setCells (((w.alloc (.cells #[.int .i64 6, .int .i64 i, .int .i64 b, .int .i64 n] 70)).alloc (.cells #[.int .i64 0, .int .i64 0, .int .i64 0, .int .i64 0] 70)).drew) (w.heap.size + 1) 0 [.int .i64 6, .int .i64 v, .int .i64 0, .int .i64 0] = w6 := ⟨_, rfl⟩
    rw [hw6] at VF BR KA
    replace hw6 := Hid.mk hw6
    replace VF := Hid.mk VF
    replace KA := Hid.mk KA
    replace BR := Hid.mk BR
    refine wpAnyH_ready (rs := [8]) (by kernel_rfl) (by simp) ?_
    refine AllReadyH.cons (o := _) rfl (fun K0 hK0 => ?_) AllReadyH.nil
    rw [if_pos (by rfl)]
    refine wp_stroke w6 70 _ _ rfl (w.heap.size + 1) 0 #[.int .i64 6, .int .i64 v, .int .i64 0, .int .i64 0] rfl rfl HT.out (by kernel_rfl) (by kernel_rfl) hw6.out ?_
    refine hK0.out _ _ KA.out (fun hHeld => ?_)
    clear hK0 K0 hHeld KA HT
    refine wpAnyH_done (by kernel_rfl) ?_ _
    go_wp2
    refine bodyPost_ret (v := .agg #[.int .i64 6, .int .i64 v, .int .i64 0, .int .i64 0]) (results_row Tryz.results62 _ _ (w.heap.size + 1) [.int .i64 6, .int .i64 v, .int .i64 0, .int .i64 0] _ rfl VF.out Tryz.underlying70 rfl (by kernel_rfl)) rfl ⟨⟨6, v, 0, 0⟩, rfl, rfl, BR.out⟩
  · rw [hr]
    obtain ⟨o, a, b, n⟩ := t
    simp only at *
    obtain ⟨a0, a1⟩ := ha (by omega)
    obtain ⟨i, rfl⟩ : ∃ i : Nat, a = (i : Int) := ⟨a.toNat, by omega⟩
    obtain ⟨bl, off, rfl, p0⟩ := hRl i (by omega)
    obtain ⟨b0, b1⟩ := hb (by omega)
    obtain ⟨j, rfl⟩ : ∃ j : Nat, b = (j : Int) := ⟨b.toNat, by omega⟩
    obtain ⟨bl', off', e9, p1⟩ := hRl j (by omega)
    simp only [Option.some.injEq, Addr.mk.injEq, and_true] at e9
    obtain ⟨rfl, rfl⟩ := e9
    subst h4
    clear hr hRl hR ha hb h hk
    generalize pl i = v at *
    generalize pl j = u at *
    have CB := Hid.mk (bothOf_ok v u)
    generalize min v u = v' at *
    generalize max v u = u' at *
    go_enter Tryz.func62, Tryz.ntmps62
    have B := Below.refl w.heap.size w
    replace B := thenB B (belowA w (.cells #[.int .i64 7, .int .i64 i, .int .i64 j, .int .i64 n] 70))
    have VX := V.new w [.int .i64 7, .int .i64 i, .int .i64 j, .int .i64 n] 70
    replace VX := VX.kept (belowA (w.alloc (.cells #[.int .i64 7, .int .i64 i, .int .i64 j, .int .i64 n] 70)) (.cells #[.int .i64 0, .int .i64 0, .int .i64 0, .int .i64 0] 70))
    replace B := thenB B (belowA (w.alloc (.cells #[.int .i64 7, .int .i64 i, .int .i64 j, .int .i64 n] 70)) (.cells #[.int .i64 0, .int .i64 0, .int .i64 0, .int .i64 0] 70))
    have VR : V ((w.alloc (.cells #[.int .i64 7, .int .i64 i, .int .i64 j, .int .i64 n] 70)).alloc (.cells #[.int .i64 0, .int .i64 0, .int .i64 0, .int .i64 0] 70)) (w.heap.size + 1) [.int .i64 0, .int .i64 0, .int .i64 0, .int .i64 0] := V.newAt _ _ _ _ (by simp)
    obtain ⟨s_VX, f_VX, z_VX⟩ := VX.open
    obtain ⟨s_VR, f_VR, z_VR⟩ := VR.open
    have Bo := B
    have hbl : bl < w.heap.size := World.block_lt_of_cell? _ _ p0
    replace p0 := ((bcell (belowA2 w (.cells #[.int .i64 7, .int .i64 i, .int .i64 j, .int .i64 n] 70) (.cells #[.int .i64 0, .int .i64 0, .int .i64 0, .int .i64 0] 70))).1 bl (off + i) hbl).trans p0
    replace p1 := ((bcell (belowA2 w (.cells #[.int .i64 7, .int .i64 i, .int .i64 j, .int .i64 n] 70) (.cells #[.int .i64 0, .int .i64 0, .int .i64 0, .int .i64 0] 70))).1 bl (off + j) hbl).trans p1
    have hi2 : i < L := by omega
    have hj2 : j < L := by omega
    clear s_VX f_VX z_VX s_VR f_VR z_VR
    have K : ∀ w' : World, Below ((w.alloc (.cells #[.int .i64 7, .int .i64 i, .int .i64 j, .int .i64 n] 70)).alloc (.cells #[.int .i64 0, .int .i64 0, .int .i64 0, .int .i64 0] 70)).heap.size ((w.alloc (.cells #[.int .i64 7, .int .i64 i, .int .i64 j, .int .i64 n] 70)).alloc (.cells #[.int .i64 0, .int .i64 0, .int .i64 0, .int .i64 0] 70)) w' → (w'.cell? ⟨w.heap.size, 0, none⟩ = some (.int .i64 7) ∧ w'.cell? ⟨w.heap.size, 1, none⟩ = some (.int .i64 i) ∧ w'.cell? ⟨w.heap.size, 2, none⟩ = some (.int .i64 j) ∧ w'.cell? ⟨w.heap.size, 3, none⟩ = some (.int .i64 n) ∧ w'.cell? ⟨bl, off + i, none⟩ = some (.int .i64 v) ∧ w'.cell? ⟨bl, off + j, none⟩ = some (.int .i64 u)) := fun w' h => ⟨(VX.kept h).2.1 0 (by simp), (VX.kept h).2.1 1 (by simp), (VX.kept h).2.1 2 (by simp), (VX.kept h).2.1 3 (by simp), ((bcell h).1 _ _ (by simp only [World.size_alloc]; omega)).trans p0, ((bcell h).1 _ _ (by simp only [World.size_alloc]; omega)).trans p1⟩
    have K := Hid.mk K
    obtain ⟨s_VX, f_VX, z_VX⟩ := VX.open
    obtain ⟨s_VR, f_VR, z_VR⟩ := VR.open
    go_wp2_with fail
    clear s_VX f_VX z_VX s_VR f_VR z_VR
    refine wp_region_held_drew (S := (fun w' => w'.cell? ⟨w.heap.size, 0, none⟩ = some (.int .i64 7) ∧ w'.cell? ⟨w.heap.size, 1, none⟩ = some (.int .i64 i) ∧ w'.cell? ⟨w.heap.size, 2, none⟩ = some (.int .i64 j) ∧ w'.cell? ⟨w.heap.size, 3, none⟩ = some (.int .i64 n) ∧ w'.cell? ⟨bl, off + i, none⟩ = some (.int .i64 v) ∧ w'.cell? ⟨bl, off + j, none⟩ = some (.int .i64 u))) (by kernel_rfl) (K.out _ (Below.refl _ _).drew) (fun hHeld => ?_)
    refine wpAnyH_take (i := 0) (oi := _) (v := ?vg21u1) rfl (by kernel_rfl) (by kernel_rfl) (by kernel_rfl) (fun _ _ _ h => h) (Or.inl ⟨by rfl, ?hyg21u1⟩) hHeld ?restg21u1
    case hyg21u1 => (intro w hSw; (try dsimp only at hSw); go_simp; first | done | with_reducible rfl)
    try simp only [Act.put, List.getElem_toArray, List.getElem_cons_zero, List.setIfInBounds_toArray, List.set_cons_zero, List.set_cons_succ]
    refine wpAnyH_take (i := 1) (oi := _) (v := ?vg21u2) rfl (by kernel_rfl) (by kernel_rfl) (by kernel_rfl) (fun _ _ _ h => h) (Or.inl ⟨by rfl, ?hyg21u2⟩) hHeld ?restg21u2
    case hyg21u2 => (intro w hSw; (try dsimp only at hSw); go_simp; first | done | with_reducible rfl)
    try simp only [Act.put, List.getElem_toArray, List.getElem_cons_zero, List.getElem_cons_succ, List.setIfInBounds_toArray, List.set_cons_zero, List.set_cons_succ]
    refine wpAnyH_take (i := 2) (oi := _) (v := ?vg21u3) rfl (by kernel_rfl) (by kernel_rfl) (by kernel_rfl) (fun _ _ _ h => h) (Or.inl ⟨by rfl, ?hyg21u3⟩) hHeld ?restg21u3
    case hyg21u3 => (intro w hSw; (try dsimp only at hSw); go_simp; first | done | with_reducible rfl)
    try simp only [Act.put, List.getElem_toArray, List.getElem_cons_zero, List.getElem_cons_succ, List.setIfInBounds_toArray, List.set_cons_zero, List.set_cons_succ]
    refine wpAnyH_take (i := 3) (oi := _) (v := ?vg21u4) rfl (by kernel_rfl) (by kernel_rfl) (by kernel_rfl) (fun _ _ _ h => h) (Or.inl ⟨by rfl, ?hyg21u4⟩) hHeld ?restg21u4
    case hyg21u4 => (intro w hSw; (try dsimp only at hSw); go_simp; first | done | with_reducible rfl)
    try simp only [Act.put, List.getElem_toArray, List.getElem_cons_zero, List.getElem_cons_succ, List.setIfInBounds_toArray, List.set_cons_zero, List.set_cons_succ]
    refine wpAnyH_take (i := 4) (oi := _) (v := ?vg21u5) rfl (by kernel_rfl) (by kernel_rfl) (by kernel_rfl) (fun _ _ _ h => h) (Or.inl ⟨by rfl, ?hyg21u5⟩) hHeld ?restg21u5
    case hyg21u5 => (intro w hSw; (try dsimp only at hSw); go_simp; first | done | with_reducible rfl)
    try simp only [Act.put, List.getElem_toArray, List.getElem_cons_zero, List.getElem_cons_succ, List.setIfInBounds_toArray, List.set_cons_zero, List.set_cons_succ]
    refine wpAnyH_take (i := 5) (oi := _) (v := ?vg21u6) rfl (by kernel_rfl) (by kernel_rfl) (by kernel_rfl) (fun _ _ _ h => h) (Or.inl ⟨by rfl, ?hyg21u6⟩) hHeld ?restg21u6
    case hyg21u6 => (intro w hSw; (try dsimp only at hSw); go_simp; first | done | with_reducible rfl)
    try simp only [Act.put, List.getElem_toArray, List.getElem_cons_zero, List.getElem_cons_succ, List.setIfInBounds_toArray, List.set_cons_zero, List.set_cons_succ]
    refine wpAnyH_take (i := 6) (oi := _) (v := ?vg21u7) rfl (by kernel_rfl) (by kernel_rfl) (by kernel_rfl) (fun _ _ _ h => h) (Or.inl ⟨by rfl, ?hyg21u7⟩) hHeld ?restg21u7
    case hyg21u7 => (intro w hSw; (try dsimp only at hSw); go_simp; first | done | with_reducible rfl)
    try simp only [Act.put, List.getElem_toArray, List.getElem_cons_zero, List.getElem_cons_succ, List.setIfInBounds_toArray, List.set_cons_zero, List.set_cons_succ]
    refine wpAnyH_take (i := 7) (oi := _) (v := ?vg21u8) rfl (by kernel_rfl) (by kernel_rfl) (by kernel_rfl) (fun _ _ _ h => h) (Or.inl ⟨by rfl, ?hyg21u8⟩) hHeld ?restg21u8
    case hyg21u8 => (intro w hSw; (try dsimp only at hSw); go_simp; first | done | with_reducible rfl)
    try simp only [Act.put, List.getElem_toArray, List.getElem_cons_zero, List.getElem_cons_succ, List.setIfInBounds_toArray, List.set_cons_zero, List.set_cons_succ]
    refine wpAnyH_take (i := 8) (oi := _) (v := ?vg21u9) rfl (by kernel_rfl) (by kernel_rfl) (by kernel_rfl) (fun _ _ _ h => h) (Or.inl ⟨by rfl, ?hyg21u9⟩) hHeld ?restg21u9
    case hyg21u9 => (intro w hSw; (try dsimp only at hSw); go_simp; first | done | with_reducible rfl)
    try simp only [Act.put, List.getElem_toArray, List.getElem_cons_zero, List.getElem_cons_succ, List.setIfInBounds_toArray, List.set_cons_zero, List.set_cons_succ]
    refine wpAnyH_take (i := 9) (oi := _) (v := ?vg21u10) rfl (by kernel_rfl) (by kernel_rfl) (by kernel_rfl) (fun _ _ _ h => h) (Or.inl ⟨by rfl, ?hyg21u10⟩) hHeld ?restg21u10
    case hyg21u10 => (intro w hSw; (try dsimp only at hSw); go_simp; first | done | with_reducible rfl)
    try simp only [Act.put, List.getElem_toArray, List.getElem_cons_zero, List.getElem_cons_succ, List.setIfInBounds_toArray, List.set_cons_zero, List.set_cons_succ]
    refine wpAnyH_ready (rs := [10]) (by kernel_rfl) (by simp) ?_
    refine AllReadyH.cons (o := _) rfl (fun K0 hK0 => ?_) AllReadyH.nil
    go_simp
    go_at_call 67
    refine (CB.out _).mono ?_
    rintro e wg21v11 ⟨rfl, bg21v11⟩
    refine hK0.out _ _ (K.out _ (thenB (Below.refl _ _).drew bg21v11)) (fun hHeld => ?_)
    clear hK0 K0
    try simp only [Act.put, List.getElem_toArray, List.getElem_cons_zero, List.getElem_cons_succ, List.setIfInBounds_toArray, List.set_cons_zero, List.set_cons_succ]
    have bacc : Below ((w.alloc (.cells #[.int .i64 7, .int .i64 i, .int .i64 j, .int .i64 n] 70)).alloc (.cells #[.int .i64 0, .int .i64 0, .int .i64 0, .int .i64 0] 70)).heap.size ((w.alloc (.cells #[.int .i64 7, .int .i64 i, .int .i64 j, .int .i64 n] 70)).alloc (.cells #[.int .i64 0, .int .i64 0, .int .i64 0, .int .i64 0] 70)) _ := (thenB (Below.refl _ _).drew bg21v11)
    replace VX := VX.kept bacc
    replace VR := VR.kept bacc
    replace B := thenB B bacc
    have Sz21 := bacc.size
    simp only [World.size_alloc] at Sz21
    have HT := Hid.mk VR.there
    have VF := VR.filled [.int .i64 7, .int .i64 v', .int .i64 u', .int .i64 0] rfl
    have KA : (World.setCells wg21v11 (w.heap.size + 1) 0 [.int .i64 7, .int .i64 v', .int .i64 u', .int .i64 0]).cell? ⟨w.heap.size, 0, none⟩ = some (.int .i64 7) ∧ (World.setCells wg21v11 (w.heap.size + 1) 0 [.int .i64 7, .int .i64 v', .int .i64 u', .int .i64 0]).cell? ⟨w.heap.size, 1, none⟩ = some (.int .i64 i) ∧ (World.setCells wg21v11 (w.heap.size + 1) 0 [.int .i64 7, .int .i64 v', .int .i64 u', .int .i64 0]).cell? ⟨w.heap.size, 2, none⟩ = some (.int .i64 j) ∧ (World.setCells wg21v11 (w.heap.size + 1) 0 [.int .i64 7, .int .i64 v', .int .i64 u', .int .i64 0]).cell? ⟨w.heap.size, 3, none⟩ = some (.int .i64 n) ∧ (World.setCells wg21v11 (w.heap.size + 1) 0 [.int .i64 7, .int .i64 v', .int .i64 u', .int .i64 0]).cell? ⟨bl, off + i, none⟩ = some (.int .i64 v) ∧ (World.setCells wg21v11 (w.heap.size + 1) 0 [.int .i64 7, .int .i64 v', .int .i64 u', .int .i64 0]).cell? ⟨bl, off + j, none⟩ = some (.int .i64 u) := ⟨(VX.apart (B := w.heap.size + 1) (by first | omega | (simp; omega)) 0 [.int .i64 7, .int .i64 v', .int .i64 u', .int .i64 0]).2.1 0 (by simp), (VX.apart (B := w.heap.size + 1) (by first | omega | (simp; omega)) 0 [.int .i64 7, .int .i64 v', .int .i64 u', .int .i64 0]).2.1 1 (by simp), (VX.apart (B := w.heap.size + 1) (by first | omega | (simp; omega)) 0 [.int .i64 7, .int .i64 v', .int .i64 u', .int .i64 0]).2.1 2 (by simp), (VX.apart (B := w.heap.size + 1) (by first | omega | (simp; omega)) 0 [.int .i64 7, .int .i64 v', .int .i64 u', .int .i64 0]).2.1 3 (by simp), (cells_far (by omega) 0 [.int .i64 7, .int .i64 v', .int .i64 u', .int .i64 0]).trans (((bcell bacc).1 _ _ (by simp only [World.size_alloc]; omega)).trans p0), (cells_far (by omega) 0 [.int .i64 7, .int .i64 v', .int .i64 u', .int .i64 0]).trans (((bcell bacc).1 _ _ (by simp only [World.size_alloc]; omega)).trans p1)⟩
    have BR := belowCells B (show w.heap.size ≤ w.heap.size + 1 by (first | omega | (simp; done) | (simp; omega))) 0 [.int .i64 7, .int .i64 v', .int .i64 u', .int .i64 0]
    obtain ⟨w6, hw6⟩ : ∃ w6, World.setCells wg21v11 (w.heap.size + 1) 0 [.int .i64 7, .int .i64 v', .int .i64 u', .int .i64 0] = w6 := ⟨_, rfl⟩
    rw [hw6] at VF BR KA
    replace hw6 := Hid.mk hw6
    replace VF := Hid.mk VF
    replace KA := Hid.mk KA
    replace BR := Hid.mk BR
    refine wpAnyH_ready (rs := [11]) (by kernel_rfl) (by simp) ?_
    refine AllReadyH.cons (o := _) rfl (fun K0 hK0 => ?_) AllReadyH.nil
    rw [if_pos (by rfl)]
    refine wp_stroke w6 70 _ _ rfl (w.heap.size + 1) 0 #[.int .i64 7, .int .i64 v', .int .i64 u', .int .i64 0] rfl rfl HT.out (by kernel_rfl) (by kernel_rfl) hw6.out ?_
    refine hK0.out _ _ KA.out (fun hHeld => ?_)
    clear hK0 K0 hHeld KA HT
    refine wpAnyH_done (by kernel_rfl) ?_ _
    go_wp2
    refine bodyPost_ret (v := .agg #[.int .i64 7, .int .i64 v', .int .i64 u', .int .i64 0]) (results_row Tryz.results62 _ _ (w.heap.size + 1) [.int .i64 7, .int .i64 v', .int .i64 u', .int .i64 0] _ rfl VF.out Tryz.underlying70 rfl (by kernel_rfl)) rfl ⟨⟨7, v', u', 0⟩, rfl, rfl, BR.out⟩
  · rw [hr]
    obtain ⟨o, a, b, n⟩ := t
    simp only at *
    obtain ⟨a0, a1⟩ := ha (by omega)
    obtain ⟨i, rfl⟩ : ∃ i : Nat, a = (i : Int) := ⟨a.toNat, by omega⟩
    obtain ⟨bl, off, rfl, p0⟩ := hRl i (by omega)
    obtain ⟨b0, b1⟩ := hb (by omega)
    obtain ⟨j, rfl⟩ : ∃ j : Nat, b = (j : Int) := ⟨b.toNat, by omega⟩
    obtain ⟨bl', off', e9, p1⟩ := hRl j (by omega)
    simp only [Option.some.injEq, Addr.mk.injEq, and_true] at e9
    obtain ⟨rfl, rfl⟩ := e9
    clear hr hRl hR ha hb h hk
    generalize pl i = v at *
    generalize pl j = u at *
    go_enter Tryz.func62, Tryz.ntmps62
    have B := Below.refl w.heap.size w
    replace B := thenB B (belowA w (.cells #[.int .i64 o, .int .i64 i, .int .i64 j, .int .i64 n] 70))
    have VX := V.new w [.int .i64 o, .int .i64 i, .int .i64 j, .int .i64 n] 70
    replace VX := VX.kept (belowA (w.alloc (.cells #[.int .i64 o, .int .i64 i, .int .i64 j, .int .i64 n] 70)) (.cells #[.int .i64 0, .int .i64 0, .int .i64 0, .int .i64 0] 70))
    replace B := thenB B (belowA (w.alloc (.cells #[.int .i64 o, .int .i64 i, .int .i64 j, .int .i64 n] 70)) (.cells #[.int .i64 0, .int .i64 0, .int .i64 0, .int .i64 0] 70))
    have VR : V ((w.alloc (.cells #[.int .i64 o, .int .i64 i, .int .i64 j, .int .i64 n] 70)).alloc (.cells #[.int .i64 0, .int .i64 0, .int .i64 0, .int .i64 0] 70)) (w.heap.size + 1) [.int .i64 0, .int .i64 0, .int .i64 0, .int .i64 0] := V.newAt _ _ _ _ (by simp)
    obtain ⟨s_VX, f_VX, z_VX⟩ := VX.open
    obtain ⟨s_VR, f_VR, z_VR⟩ := VR.open
    have Bo := B
    have hbl : bl < w.heap.size := World.block_lt_of_cell? _ _ p0
    replace p0 := ((bcell (belowA2 w (.cells #[.int .i64 o, .int .i64 i, .int .i64 j, .int .i64 n] 70) (.cells #[.int .i64 0, .int .i64 0, .int .i64 0, .int .i64 0] 70))).1 bl (off + i) hbl).trans p0
    replace p1 := ((bcell (belowA2 w (.cells #[.int .i64 o, .int .i64 i, .int .i64 j, .int .i64 n] 70) (.cells #[.int .i64 0, .int .i64 0, .int .i64 0, .int .i64 0] 70))).1 bl (off + j) hbl).trans p1
    have hi2 : i < L := by omega
    have hj2 : j < L := by omega
    clear s_VX f_VX z_VX s_VR f_VR z_VR
    have K : ∀ w' : World, Below ((w.alloc (.cells #[.int .i64 o, .int .i64 i, .int .i64 j, .int .i64 n] 70)).alloc (.cells #[.int .i64 0, .int .i64 0, .int .i64 0, .int .i64 0] 70)).heap.size ((w.alloc (.cells #[.int .i64 o, .int .i64 i, .int .i64 j, .int .i64 n] 70)).alloc (.cells #[.int .i64 0, .int .i64 0, .int .i64 0, .int .i64 0] 70)) w' → (w'.cell? ⟨w.heap.size, 0, none⟩ = some (.int .i64 o) ∧ w'.cell? ⟨w.heap.size, 1, none⟩ = some (.int .i64 i) ∧ w'.cell? ⟨w.heap.size, 2, none⟩ = some (.int .i64 j) ∧ w'.cell? ⟨w.heap.size, 3, none⟩ = some (.int .i64 n) ∧ w'.cell? ⟨bl, off + i, none⟩ = some (.int .i64 v) ∧ w'.cell? ⟨bl, off + j, none⟩ = some (.int .i64 u)) := fun w' h => ⟨(VX.kept h).2.1 0 (by simp), (VX.kept h).2.1 1 (by simp), (VX.kept h).2.1 2 (by simp), (VX.kept h).2.1 3 (by simp), ((bcell h).1 _ _ (by simp only [World.size_alloc]; omega)).trans p0, ((bcell h).1 _ _ (by simp only [World.size_alloc]; omega)).trans p1⟩
    have K := Hid.mk K
    obtain ⟨s_VX, f_VX, z_VX⟩ := VX.open
    obtain ⟨s_VR, f_VR, z_VR⟩ := VR.open
    go_wp2_with fail
    clear s_VX f_VX z_VX s_VR f_VR z_VR
    refine wp_region_held_drew (S := (fun w' => w'.cell? ⟨w.heap.size, 0, none⟩ = some (.int .i64 o) ∧ w'.cell? ⟨w.heap.size, 1, none⟩ = some (.int .i64 i) ∧ w'.cell? ⟨w.heap.size, 2, none⟩ = some (.int .i64 j) ∧ w'.cell? ⟨w.heap.size, 3, none⟩ = some (.int .i64 n) ∧ w'.cell? ⟨bl, off + i, none⟩ = some (.int .i64 v) ∧ w'.cell? ⟨bl, off + j, none⟩ = some (.int .i64 u))) (by kernel_rfl) (K.out _ (Below.refl _ _).drew) (fun hHeld => ?_)
    refine wpAnyH_take (i := 0) (oi := _) (v := ?vg41u1) rfl (by kernel_rfl) (by kernel_rfl) (by kernel_rfl) (fun _ _ _ h => h) (Or.inl ⟨by rfl, ?hyg41u1⟩) hHeld ?restg41u1
    case hyg41u1 => (intro w hSw; (try dsimp only at hSw); go_simp; first | done | with_reducible rfl)
    try simp only [Act.put, List.getElem_toArray, List.getElem_cons_zero, List.setIfInBounds_toArray, List.set_cons_zero, List.set_cons_succ]
    refine wpAnyH_take (i := 1) (oi := _) (v := ?vg41u2) rfl (by kernel_rfl) (by kernel_rfl) (by kernel_rfl) (fun _ _ _ h => h) (Or.inl ⟨by rfl, ?hyg41u2⟩) hHeld ?restg41u2
    case hyg41u2 => (intro w hSw; (try dsimp only at hSw); go_simp; first | done | with_reducible rfl)
    try simp only [Act.put, List.getElem_toArray, List.getElem_cons_zero, List.getElem_cons_succ, List.setIfInBounds_toArray, List.set_cons_zero, List.set_cons_succ]
    refine wpAnyH_take (i := 2) (oi := _) (v := ?vg41u3) rfl (by kernel_rfl) (by kernel_rfl) (by kernel_rfl) (fun _ _ _ h => h) (Or.inl ⟨by rfl, ?hyg41u3⟩) hHeld ?restg41u3
    case hyg41u3 => (intro w hSw; (try dsimp only at hSw); go_simp; first | done | with_reducible rfl)
    try simp only [Act.put, List.getElem_toArray, List.getElem_cons_zero, List.getElem_cons_succ, List.setIfInBounds_toArray, List.set_cons_zero, List.set_cons_succ]
    refine wpAnyH_take (i := 3) (oi := _) (v := ?vg41u4) rfl (by kernel_rfl) (by kernel_rfl) (by kernel_rfl) (fun _ _ _ h => h) (Or.inl ⟨by rfl, ?hyg41u4⟩) hHeld ?restg41u4
    case hyg41u4 => (intro w hSw; (try dsimp only at hSw); go_simp; first | done | with_reducible rfl)
    try simp only [Act.put, List.getElem_toArray, List.getElem_cons_zero, List.getElem_cons_succ, List.setIfInBounds_toArray, List.set_cons_zero, List.set_cons_succ]
    refine wpAnyH_take (i := 4) (oi := _) (v := ?vg41u5) rfl (by kernel_rfl) (by kernel_rfl) (by kernel_rfl) (fun _ _ _ h => h) (Or.inl ⟨by rfl, ?hyg41u5⟩) hHeld ?restg41u5
    case hyg41u5 => (intro w hSw; (try dsimp only at hSw); go_simp; first | done | with_reducible rfl)
    try simp only [Act.put, List.getElem_toArray, List.getElem_cons_zero, List.getElem_cons_succ, List.setIfInBounds_toArray, List.set_cons_zero, List.set_cons_succ]
    refine wpAnyH_take (i := 5) (oi := _) (v := ?vg41u6) rfl (by kernel_rfl) (by kernel_rfl) (by kernel_rfl) (fun _ _ _ h => h) (Or.inl ⟨by rfl, ?hyg41u6⟩) hHeld ?restg41u6
    case hyg41u6 => (intro w hSw; (try dsimp only at hSw); go_simp; first | done | with_reducible rfl)
    try simp only [Act.put, List.getElem_toArray, List.getElem_cons_zero, List.getElem_cons_succ, List.setIfInBounds_toArray, List.set_cons_zero, List.set_cons_succ]
    refine wpAnyH_take (i := 6) (oi := _) (v := ?vg41u7) rfl (by kernel_rfl) (by kernel_rfl) (by kernel_rfl) (fun _ _ _ h => h) (Or.inl ⟨by rfl, ?hyg41u7⟩) hHeld ?restg41u7
    case hyg41u7 => (intro w hSw; (try dsimp only at hSw); go_simp; first | done | with_reducible rfl)
    try simp only [Act.put, List.getElem_toArray, List.getElem_cons_zero, List.getElem_cons_succ, List.setIfInBounds_toArray, List.set_cons_zero, List.set_cons_succ]
    refine wpAnyH_take (i := 7) (oi := _) (v := ?vg41u8) rfl (by kernel_rfl) (by kernel_rfl) (by kernel_rfl) (fun _ _ _ h => h) (Or.inl ⟨by rfl, ?hyg41u8⟩) hHeld ?restg41u8
    case hyg41u8 => (intro w hSw; (try dsimp only at hSw); go_simp; first | done | with_reducible rfl)
    try simp only [Act.put, List.getElem_toArray, List.getElem_cons_zero, List.getElem_cons_succ, List.setIfInBounds_toArray, List.set_cons_zero, List.set_cons_succ]
    refine wpAnyH_take (i := 8) (oi := _) (v := ?vg41u9) rfl (by kernel_rfl) (by kernel_rfl) (by kernel_rfl) (fun _ _ _ h => h) (Or.inl ⟨by rfl, ?hyg41u9⟩) hHeld ?restg41u9
    case hyg41u9 => (intro w hSw; (try dsimp only at hSw); go_simp; first | done | with_reducible rfl)
    try simp only [Act.put, List.getElem_toArray, List.getElem_cons_zero, List.getElem_cons_succ, List.setIfInBounds_toArray, List.set_cons_zero, List.set_cons_succ]
    refine wpAnyH_take (i := 9) (oi := _) (v := ?vg41u10) rfl (by kernel_rfl) (by kernel_rfl) (by kernel_rfl) (fun _ _ _ h => h) (Or.inl ⟨by rfl, ?hyg41u10⟩) hHeld ?restg41u10
    case hyg41u10 => (intro w hSw; (try dsimp only at hSw); go_simp; first | done | with_reducible rfl)
    try simp only [Act.put, List.getElem_toArray, List.getElem_cons_zero, List.getElem_cons_succ, List.setIfInBounds_toArray, List.set_cons_zero, List.set_cons_succ]
    refine wpAnyH_take (i := 10) (oi := _) (v := ?vg41u11) rfl (by kernel_rfl) (by kernel_rfl) (by kernel_rfl) (fun _ _ _ h => h) (Or.inl ⟨by rfl, ?hyg41u11⟩) hHeld ?restg41u11
    case hyg41u11 => (intro w hSw; (try dsimp only at hSw); go_simp; first | done | with_reducible rfl)
    try simp only [Act.put, List.getElem_toArray, List.getElem_cons_zero, List.getElem_cons_succ, List.setIfInBounds_toArray, List.set_cons_zero, List.set_cons_succ]
    refine wpAnyH_take (i := 11) (oi := _) (v := ?vg41u12) rfl (by kernel_rfl) (by kernel_rfl) (by kernel_rfl) (fun _ _ _ h => h) (Or.inl ⟨by rfl, ?hyg41u12⟩) hHeld ?restg41u12
    case hyg41u12 => (intro w hSw; (try dsimp only at hSw); go_simp; first | done | with_reducible rfl)
    try simp only [Act.put, List.getElem_toArray, List.getElem_cons_zero, List.getElem_cons_succ, List.setIfInBounds_toArray, List.set_cons_zero, List.set_cons_succ]
    refine wpAnyH_take (i := 12) (oi := _) (v := ?vg41u13) rfl (by kernel_rfl) (by kernel_rfl) (by kernel_rfl) (fun _ _ _ h => h) (Or.inl ⟨by rfl, ?hyg41u13⟩) hHeld ?restg41u13
    case hyg41u13 => (intro w hSw; (try dsimp only at hSw); go_simp; first | done | with_reducible rfl)
    try simp only [Act.put, List.getElem_toArray, List.getElem_cons_zero, List.getElem_cons_succ, List.setIfInBounds_toArray, List.set_cons_zero, List.set_cons_succ]
    have bacc : Below ((w.alloc (.cells #[.int .i64 o, .int .i64 i, .int .i64 j, .int .i64 n] 70)).alloc (.cells #[.int .i64 0, .int .i64 0, .int .i64 0, .int .i64 0] 70)).heap.size ((w.alloc (.cells #[.int .i64 o, .int .i64 i, .int .i64 j, .int .i64 n] 70)).alloc (.cells #[.int .i64 0, .int .i64 0, .int .i64 0, .int .i64 0] 70)) _ := (Below.refl _ _).drew
    replace VX := VX.kept bacc
    replace VR := VR.kept bacc
    replace B := thenB B bacc
    have Sz41 := bacc.size
    simp only [World.size_alloc] at Sz41
    have HT := Hid.mk VR.there
    have VF := VR.filled [.int .i64 o, .int .i64 v, .int .i64 u, .int .i64 0] rfl
    have KA : (World.setCells (((w.alloc (.cells #[.int .i64 o, .int .i64 i, .int .i64 j, .int .i64 n] 70)).alloc (.cells #[.int .i64 0, .int .i64 0, .int .i64 0, .int .i64 0] 70)).drew) (w.heap.size + 1) 0 [.int .i64 o, .int .i64 v, .int .i64 u, .int .i64 0]).cell? ⟨w.heap.size, 0, none⟩ = some (.int .i64 o) ∧ (World.setCells (((w.alloc (.cells #[.int .i64 o, .int .i64 i, .int .i64 j, .int .i64 n] 70)).alloc (.cells #[.int .i64 0, .int .i64 0, .int .i64 0, .int .i64 0] 70)).drew) (w.heap.size + 1) 0 [.int .i64 o, .int .i64 v, .int .i64 u, .int .i64 0]).cell? ⟨w.heap.size, 1, none⟩ = some (.int .i64 i) ∧ (World.setCells (((w.alloc (.cells #[.int .i64 o, .int .i64 i, .int .i64 j, .int .i64 n] 70)).alloc (.cells #[.int .i64 0, .int .i64 0, .int .i64 0, .int .i64 0] 70)).drew) (w.heap.size + 1) 0 [.int .i64 o, .int .i64 v, .int .i64 u, .int .i64 0]).cell? ⟨w.heap.size, 2, none⟩ = some (.int .i64 j) ∧ (World.setCells (((w.alloc (.cells #[.int .i64 o, .int .i64 i, .int .i64 j, .int .i64 n] 70)).alloc (.cells #[.int .i64 0, .int .i64 0, .int .i64 0, .int .i64 0] 70)).drew) (w.heap.size + 1) 0 [.int .i64 o, .int .i64 v, .int .i64 u, .int .i64 0]).cell? ⟨w.heap.size, 3, none⟩ = some (.int .i64 n) ∧ (World.setCells (((w.alloc (.cells #[.int .i64 o, .int .i64 i, .int .i64 j, .int .i64 n] 70)).alloc (.cells #[.int .i64 0, .int .i64 0, .int .i64 0, .int .i64 0] 70)).drew) (w.heap.size + 1) 0 [.int .i64 o, .int .i64 v, .int .i64 u, .int .i64 0]).cell? ⟨bl, off + i, none⟩ = some (.int .i64 v) ∧ (World.setCells (((w.alloc (.cells #[.int .i64 o, .int .i64 i, .int .i64 j, .int .i64 n] 70)).alloc (.cells #[.int .i64 0, .int .i64 0, .int .i64 0, .int .i64 0] 70)).drew) (w.heap.size + 1) 0 [.int .i64 o, .int .i64 v, .int .i64 u, .int .i64 0]).cell? ⟨bl, off + j, none⟩ = some (.int .i64 u) := ⟨(VX.apart (B := w.heap.size + 1) (by first | omega | (simp; omega)) 0 [.int .i64 o, .int .i64 v, .int .i64 u, .int .i64 0]).2.1 0 (by simp), (VX.apart (B := w.heap.size + 1) (by first | omega | (simp; omega)) 0 [.int .i64 o, .int .i64 v, .int .i64 u, .int .i64 0]).2.1 1 (by simp), (VX.apart (B := w.heap.size + 1) (by first | omega | (simp; omega)) 0 [.int .i64 o, .int .i64 v, .int .i64 u, .int .i64 0]).2.1 2 (by simp), (VX.apart (B := w.heap.size + 1) (by first | omega | (simp; omega)) 0 [.int .i64 o, .int .i64 v, .int .i64 u, .int .i64 0]).2.1 3 (by simp), (cells_far (by omega) 0 [.int .i64 o, .int .i64 v, .int .i64 u, .int .i64 0]).trans (((bcell bacc).1 _ _ (by simp only [World.size_alloc]; omega)).trans p0), (cells_far (by omega) 0 [.int .i64 o, .int .i64 v, .int .i64 u, .int .i64 0]).trans (((bcell bacc).1 _ _ (by simp only [World.size_alloc]; omega)).trans p1)⟩
    have BR := belowCells B (show w.heap.size ≤ w.heap.size + 1 by (first | omega | (simp; done) | (simp; omega))) 0 [.int .i64 o, .int .i64 v, .int .i64 u, .int .i64 0]
    obtain ⟨w6, hw6⟩ : ∃ w6, World.setCells (((w.alloc (.cells #[.int .i64 o, .int .i64 i, .int .i64 j, .int .i64 n] 70)).alloc (.cells #[.int .i64 0, .int .i64 0, .int .i64 0, .int .i64 0] 70)).drew) (w.heap.size + 1) 0 [.int .i64 o, .int .i64 v, .int .i64 u, .int .i64 0] = w6 := ⟨_, rfl⟩
    rw [hw6] at VF BR KA
    replace hw6 := Hid.mk hw6
    replace VF := Hid.mk VF
    replace KA := Hid.mk KA
    replace BR := Hid.mk BR
    refine wpAnyH_ready (rs := [13]) (by kernel_rfl) (by simp) ?_
    refine AllReadyH.cons (o := _) rfl (fun K0 hK0 => ?_) AllReadyH.nil
    rw [if_pos (by rfl)]
    refine wp_stroke w6 70 _ _ rfl (w.heap.size + 1) 0 #[.int .i64 o, .int .i64 v, .int .i64 u, .int .i64 0] rfl rfl HT.out (by kernel_rfl) (by kernel_rfl) hw6.out ?_
    refine hK0.out _ _ KA.out (fun hHeld => ?_)
    clear hK0 K0 hHeld KA HT
    refine wpAnyH_done (by kernel_rfl) ?_ _
    go_wp2
    refine bodyPost_ret (v := .agg #[.int .i64 o, .int .i64 v, .int .i64 u, .int .i64 0]) (results_row Tryz.results62 _ _ (w.heap.size + 1) [.int .i64 o, .int .i64 v, .int .i64 u, .int .i64 0] _ rfl VF.out Tryz.underlying70 rfl (by kernel_rfl)) rfl ⟨⟨o, v, u, 0⟩, rfl, rfl, BR.out⟩

end Go.Proofs.YtfldgeokigcokaaGreat

/- takeOver. -/
namespace Go.Proofs.YtfldgeokigcokaaGreat
open Go.RowKit

theorem tab_cell {w : World} {Q L : Nat} {pl : Int → Int} (h : Own .i64 2 w Q (some ⟨Q, 0, none⟩) L (tab L pl)) {i : Nat} (hi : i < L) : w.cell? ⟨Q, i, none⟩ = some (.int .i64 (pl i)) := by
  rcases h.rd with h1 | ⟨b3, o3, e3, h1⟩
  · have := tab_len L pl; rw [h1] at this; simp at this; omega
  · simp only [Option.some.injEq, Addr.mk.injEq, and_true] at e3
    obtain ⟨rfl, rfl⟩ := e3
    have h2 := h1 i (by rw [tab_len]; exact hi)
    rw [Nat.zero_add, tab_at pl hi] at h2
    exact h2

theorem tab_frozen {w : World} {Q L : Nat} {pl : Int → Int} (h : Own .i64 2 w Q (some ⟨Q, 0, none⟩) L (tab L pl)) (i : Nat) : w.frozen? ⟨Q, i, none⟩ = false := (h.row (tab_len L pl)).frozenAt i

theorem tab_store {w : World} {Q L : Nat} {pl : Int → Int} (h : Own .i64 2 w Q (some ⟨Q, 0, none⟩) L (tab L pl)) (i : Nat) (v : Int) : Own .i64 2 (w.setCell ⟨Q, i, none⟩ (.int .i64 v)) Q (some ⟨Q, 0, none⟩) L (tab L (updP pl i v)) := by
  have hs := (h.row (tab_len L pl)).stored i (.int .i64 v)
  rw [set_map, tab_set] at hs
  exact Own.mk hs.1 (tab_len _ _)

/-- What a call of 'takeOver' leaves. -/
def TkOver (M : Mv) (m base p g : Nat) (c : Option Addr) (w : World) (e : Ending) (w' : World) : Prop :=
  ∃ c' d', e = .returned (.agg #[.int .i64 M.c, .int .i64 (if M.c = 0 then M.pl m else 0)]) ∧ Bk w' base p g c' d' M.tb ∧ Sm (BkX p g c) w w' ∧ ∀ k, BkX p g c' k → k < w.heap.size → BkX p g c k

set_option maxRecDepth 20000 in
set_option maxHeartbeats 8000000 in
theorem takeOver_ok (base p g : Nat) (c : Option Addr) (d : Nat) (xs : List T4) (base' ps gs : Nat) (cs : Option Addr) (ds : Nat) (fr : List T4) (n m : Nat) (w : World)
    (H : Bk w base p g c d xs) (Hs : Bk w base' ps gs cs ds fr) (hn : fr.length = n) (hv : tfC fr = 0) (hok : ∀ t ∈ fr, okT t) (hm : m < n) (hl : xs.length ≤ 400) (hd : ∀ k, BkX p g c k → ¬ BkX ps gs cs k) (M : Mv) (hM : mvR fr (prL fr m) (fun _ => 0) xs = M) :
    Calls Tryz.prog 47 #[.pointer (some ⟨p, 0, none⟩), .pointer (some ⟨ps, 0, none⟩), .int .i64 m] w (TkOver M m base p g c w) := by
  have q2 := build_irv
  have hn4 : n ≤ 400 := by have := (tfC_zero hv).1; omega
  have CP := Hid.mk (fun w' h => partsOf_ok base' ps gs cs ds fr n m w' h hn hv hok hm)
  have HAh := Hid.mk (tfC_ahead hv)
  have HV := Hid.mk hv
  have HOK := Hid.mk hok
  have HD := Hid.mk hd
  have HLT := Hid.mk H.lt
  have HLS := Hid.mk Hs.lt
  have HML := Hid.mk (show ∀ z ∈ prL fr m, 0 ≤ z ∧ z ≤ m from fun z hz => prL_range hz)
  have hlz := prL_len fr m
  obtain ⟨zs, hzs⟩ : ∃ zs, prL fr m = zs := ⟨_, rfl⟩
  rw [hzs] at hM CP HML hlz
  have hM0 : Hid (mvR fr (zs.drop 0) (fun _ => 0) xs = M ∧ PlOk (fun _ => 0) ∧ xs.length ≤ 400) := Hid.mk ⟨by rw [List.drop_zero]; exact hM, PlOk.zero, hl⟩
  have hm1 : (m : Int) < (n : Int) := by omega
  have HN := Hid.mk hn
  have VS := Hs.v
  rw [hn] at VS
  obtain ⟨i0, hi, hz0, hz1, hz2⟩ := info_parts Tryz.infoI64
  clear hv hok hd hM hzs hl
  go_enter Tryz.func47, Tryz.ntmps47
  have B := Below.refl w.heap.size w
  replace VS := VS.kept (belowA w (.cells #[.int .i64 0, .int .i64 0] 37))
  replace H := H.kept (belowA w (.cells #[.int .i64 0, .int .i64 0] 37))
  replace Hs := Hs.kept (belowA w (.cells #[.int .i64 0, .int .i64 0] 37))
  replace B := thenB B (belowA w (.cells #[.int .i64 0, .int .i64 0] 37))
  have VR := V.new w [.int .i64 0, .int .i64 0] 37
  obtain ⟨s_VS, f_VS, z_VS⟩ := VS.open
  obtain ⟨s_VR, f_VR, z_VR⟩ := VR.open
  have Bo := B
  go_wp2_with (at_make; go_loud (refine wpList_make_full _ rfl _ _ 52 rfl (w.alloc (.cells #[.int .i64 0, .int .i64 0] 37)).heap.size 2 i0 (.int .i64 0) 1 Tryz.underlying52 hi hz0 hz1 .i64 .i64 _ _ n rfl rfl (by omega) (by omega) (by rw [hz2]; omega) (by unfold maxLen; omega) (Nat.le_refl _) ?_))
  intro w2 hown hgrow
  have O0 : Own .i64 2 w2 (w.alloc (.cells #[.int .i64 0, .int .i64 0] 37)).heap.size (some ⟨(w.alloc (.cells #[.int .i64 0, .int .i64 0] 37)).heap.size, 0, none⟩) n (tab n (fun _ => 0)) := by
    refine Own.mk ?_ (tab_len _ _)
    rw [tab_zero]
    simpa [toList_madeCells_one] using hown
  have bg : Below (w.alloc (.cells #[.int .i64 0, .int .i64 0] 37)).heap.size (w.alloc (.cells #[.int .i64 0, .int .i64 0] 37)) w2 := (Sm.grown (X := fun _ => False) hgrow (fun k e => by cases e)).below' (Below.refl _ _) (Nat.le_refl _) (fun k e => e.elim)
  clear s_VS f_VS z_VS s_VR f_VR z_VR
  replace VS := VS.kept bg
  replace VR := VR.kept bg
  replace H := H.kept bg
  replace Hs := Hs.kept bg
  replace B := thenB B bg
  have hQ1 : (w.alloc (.cells #[.int .i64 0, .int .i64 0] 37)).heap.size = w.heap.size + 1 := World.size_alloc _ _
  rw [hQ1] at O0
  have hS2 : w.heap.size + 1 < w2.heap.size := by have := O0.lt _ rfl; simp only at this; omega
  clear hown hgrow bg hi hz0 hz1 hz2
  obtain ⟨s_VS, f_VS, z_VS⟩ := VS.open
  obtain ⟨s_VR, f_VR, z_VR⟩ := VR.open
  have Bo := B
  go_wp2_with fail
  refine (CP.out _ Hs).mono ?_
  rintro e w1 ⟨g4, d4, l, rfl, hk, OP, b1⟩
  clear s_VS f_VS z_VS s_VR f_VR z_VR
  have S1 := b1.size
  replace VS := VS.kept b1
  replace VR := VR.kept b1
  replace H := H.kept b1
  replace Hs := Hs.kept b1
  replace O0 := O0.kept b1
  replace B := thenB B b1
  clear b1
  obtain ⟨s_VS, f_VS, z_VS⟩ := VS.open
  obtain ⟨s_VR, f_VR, z_VR⟩ := VR.open
  have Bo := B
  have hg4 := OP.lt _ rfl
  simp only at hg4
  clear s_VS f_VS z_VS s_VR f_VR z_VR
  have RP := Hid.mk OP.rd
  have HK := Hid.mk hk
  have hl5 : l ≤ 401 := by have := HK.out; omega
  clear hlz
  have hS4 := Hid.mk (show w2.heap.size ≤ w1.heap.size by omega)
  obtain ⟨Z, hZ⟩ : ∃ Z, w1.heap.size = Z := ⟨_, rfl⟩
  have hW := Hid.mk (show Z ≤ w1.heap.size ∧ ∀ k, BkX p g c k → BkX p g c k ∨ Z ≤ k from ⟨by omega, fun k hk => .inl hk⟩)
  have S0 := Hid.mk (Sm.below (X := BkX p g c) B)
  have hZ1 : w.heap.size + 1 < Z ∧ g4 < Z ∧ w.heap.size + 1 < g4 := by omega
  have H0 := Hid.mk H
  have Hs0 := Hid.mk Hs
  have O1 := Hid.mk O0
  have VR0 := Hid.mk VR
  clear H Hs O0 VR VS OP B Bo hS4 hZ hg4
  go_wp2
  go_loopw [21] (fun i wr => ∃ (k : Nat) (c' : Option Addr) (d' : Nat) (pl : Int → Int) (tb : List T4), k ≤ l ∧ i = .int .i64 k ∧ Hid (mvR fr (zs.drop k) pl tb = M ∧ PlOk pl ∧ tb.length ≤ 400) ∧ Bk wr base p g c' d' tb ∧ Bk wr base' ps gs cs ds fr ∧ Own .i64 2 wr (w.heap.size + 1) (some ⟨w.heap.size + 1, 0, none⟩) n (tab n pl) ∧ Rd .i64 wr (some ⟨g4, 0, none⟩) zs ∧ V wr w.heap.size [.int .i64 0, .int .i64 0] ∧ Sm (BkX p g c) w wr ∧ Hid (Z ≤ wr.heap.size ∧ ∀ k, BkX p g c' k → BkX p g c k ∨ Z ≤ k)) (fun i _ => l - (intOf i).toNat)
  case atStart => exact ⟨0, c, d, fun _ => 0, xs, Nat.zero_le _, rfl, hM0, H0.out, Hs0.out, O1.out, RP.out, VR0.out, S0.out, hW⟩
  case round =>
    clear hM0 H0 Hs0 O1 RP VR0 S0 hW
    obtain ⟨k, c1, d1, pl, tb, hk1, rfl, hdr, H, Hs, O, RP, VR, S, hW⟩ := hrel
    have hDJ : Hid (∀ k, BkX p g c1 k → ¬ BkX ps gs cs k ∧ k ≠ w.heap.size ∧ k ≠ w.heap.size + 1 ∧ k ≠ g4) := Hid.mk (fun k hk => by
      have h1 := hW.out.2 k hk
      rcases h1 with h1 | h1
      · have h2 := (HLT.out k h1).2
        exact ⟨HD.out k h1, by omega, by omega, by omega⟩
      · exact ⟨fun e => by have := (HLS.out k e).2; omega, by omega, by omega, by omega⟩)
    by_cases hlt : k < l
    · obtain ⟨z, hz⟩ : ∃ z, zs.getD k 0 = z := ⟨_, rfl⟩
      have hk2 : (k : Int) < (l : Int) := by omega
      have hzm := HML.out z (by rw [← hz]; exact igetD_mem (by rw [HK.out]; exact hlt))
      obtain ⟨u, rfl⟩ : ∃ u : Nat, z = (u : Int) := ⟨z.toNat, by omega⟩
      have hun : u < n := by omega
      have hun1 : (u : Int) < (n : Int) := by omega
      obtain ⟨x, hx1⟩ : ∃ x, fr.getD u zTerm = x := ⟨_, rfl⟩
      have hs := mvR_drop fr zs pl tb k (by rw [HK.out]; exact hlt) hz
      have htm : tmAt fr (u : Int) = x := by unfold tmAt; rw [Int.toNat_natCast]; exact hx1
      rw [htm, hdr.out.1] at hs
      obtain ⟨r, hr⟩ : ∃ r, mvT x pl = r := ⟨_, rfl⟩
      rw [hr] at hs
      have hxo : okT x := HOK.out x (by rw [← hx1]; exact getDTerm_mem (by rw [HN.out]; exact hun))
      have hro : okT r := by rw [← hr]; exact mvT_ok hxo hdr.out.2.1
      have hop := op_right HV.out u (by rw [HN.out]; exact hun) hx1
      obtain ⟨ha1, hb1⟩ := HAh.out u (by rw [HN.out]; exact hun)
      rw [hx1] at ha1 hb1
      have CW := Hid.mk (fun w' h => withPlaces_ok x hop pl n (some ⟨w.heap.size + 1, 0, none⟩) n w' h (fun e => by have := ha1 e; omega) (fun e => by have := hb1 e; omega))
      have CU := Hid.mk (fun w h => put_ok base p g c1 d1 tb r w h hro hdr.out.2.2)
      have HR := Hid.mk hr
      have HPO := Hid.mk hdr.out.2.1
      have hput := put_len (xs := tb) (t := r) hdr.out.2.2
      have hpk := put_k (xs := tb) (t := r) hdr.out.2.2
      have h0 : Hid (tb.length ≤ 400) := Hid.mk hdr.out.2.2
      rcases Hs.o.rd with h9 | ⟨b1, o1, rfl, hca⟩
      · have := HN.out; rw [h9] at this; simp at this; omega
      obtain ⟨p0, p1, p2, p3⟩ := RdTerm.cells hca u (by rw [HN.out]; exact hun) x hx1
      have RPh := Hid.mk RP
      rcases RP with h9 | ⟨b2, o2, e2, hcp⟩
      · have := HK.out; rw [h9] at this; simp at this; omega
      simp only [Option.some.injEq, Addr.mk.injEq, and_true] at e2
      obtain ⟨rfl, rfl⟩ := e2
      have pz := hcp k (by rw [HK.out]; exact hlt)
      rw [hz, Nat.zero_add] at pz
      have VS := Hs.v
      rw [HN.out] at VS
      have RP := RPh.out
      clear RPh hca hcp hz hx1 htm hr hxo hro hop ha1 hb1 hdr hzm
      by_cases hc : (put tb r).c = 0
      · rw [if_pos hc] at hs
        have e1 : putL tb r = (put tb r).l := by unfold putL; rw [if_pos hc]
        rw [e1] at CU
        have HS := Hid.mk hs
        clear hs e1
        generalize put tb r = P at *
        obtain ⟨kc, kk, ls⟩ := P
        simp only at hc hput hpk CU HS
        subst hc
        replace hput := Hid.mk hput
        obtain ⟨s_VR, f_VR, z_VR⟩ := VR.open
        obtain ⟨s_VS, f_VS, z_VS⟩ := VS.open
        go_wp2_with fail
        refine (CW.out _ O.rd).mono ?_
        rintro e w21 ⟨r', hr', rfl, b21⟩
        clear s_VR f_VR z_VR s_VS f_VS z_VS
        have S21 := b21.size
        replace VR := VR.kept b21
        replace VS := VS.kept b21
        replace H := H.kept b21
        replace Hs := Hs.kept b21
        replace O := O.kept b21
        replace RP := RP.kept b21
        replace S := S.trans (Sm.below b21)
        clear b21
        obtain ⟨s_VR, f_VR, z_VR⟩ := VR.open
        obtain ⟨s_VS, f_VS, z_VS⟩ := VS.open
        rw [HR.out] at hr'
        subst hr'
        go_wp2_with fail
        refine (CU.out _ H).mono ?_
        rintro e w6 ⟨c6, d6, rfl, H6, S6, hc6⟩
        clear s_VR f_VR z_VR s_VS f_VS z_VS
        have hsz6 := S6.size
        have hsz5 := S.size
        replace hc6 := Hid.mk hc6
        have hNB : Hid (∀ k, BkX p g c1 k → ¬ BkX ps gs (some ⟨b1, o1, none⟩) k ∧ k ≠ w.heap.size ∧ k ≠ w.heap.size + 1 ∧ k ≠ g4) := hDJ
        replace Hs := Hs.sm S6 (fun k e => (hDJ.out k e).1)
        replace O := O.sm S6 (fun b hb e => by simp only [Option.some.injEq] at hb; subst hb; exact (hDJ.out _ e).2.2.1 rfl)
        replace RP := RP.sm S6 (fun b hb e => by simp only [Option.some.injEq] at hb; subst hb; exact (hDJ.out _ e).2.2.2 rfl)
        replace VR := VR.sm S6 (fun e => (hDJ.out _ e).2.1 rfl)
        replace VS := VS.sm S6 (fun e => (hDJ.out _ e).1 (.inl rfl))
        have hZw : Hid (Z ≤ w6.heap.size) := Hid.mk (by have := hW.out.1; omega)
        have hW6 : Hid (∀ k, BkX p g c6 k → BkX p g c k ∨ Z ≤ k) := Hid.mk (fun k hk => by
          by_cases hkk : k < w21.heap.size
          · exact hW.out.2 k (hc6.out k hk hkk)
          · have := hW.out.1; exact .inr (by omega))
        replace S := Sm.less S.size S6 (fun k hk hx => by rcases hW.out.2 k hx with h | h; exact h; have := hW.out.1; omega) S
        clear S6 H hNB
        have H := H6
        clear H6
        have b7 := belowA w6 (.cells #[.int .i64 0, .int .i64 kk] 37)
        replace VR := VR.kept b7
        replace VS := VS.kept b7
        replace H := H.kept b7
        replace Hs := Hs.kept b7
        replace O := O.kept b7
        replace RP := RP.kept b7
        replace S := S.trans (Sm.below b7)
        clear b7
        have SQ : Sm (fun q => q = w.heap.size + 1) (w6.alloc (.cells #[.int .i64 0, .int .i64 kk] 37)) ((w6.alloc (.cells #[.int .i64 0, .int .i64 kk] 37)).setCell ⟨w.heap.size + 1, u, none⟩ (.int .i64 kk)) := Sm.cell (X := fun q => q = w.heap.size + 1) rfl _
        have hQc := tab_cell O hun
        have hQf := tab_frozen O u
        have H8 := Hid.mk (H.sm SQ (fun k e h2 => by subst e; rcases hW6.out _ h2 with h3 | h3; have := (HLT.out _ h3).2; omega; omega))
        have Hs8 := Hid.mk (Hs.sm SQ (fun k e h2 => by subst e; have := (HLS.out _ h2).2; omega))
        have O8 := Hid.mk (tab_store O u kk)
        have RP8 := Hid.mk (RP.sm SQ (fun b hb e => by simp only [Option.some.injEq] at hb; subst hb; simp only at e; omega))
        have VR8 := Hid.mk (VR.sm SQ (by omega))
        have S8 := Hid.mk (S.newCell (p := ⟨w.heap.size + 1, u, none⟩) (by simp only; omega) (.int .i64 kk))
        have hW8 : Hid (Z ≤ ((w6.alloc (.cells #[.int .i64 0, .int .i64 kk] 37)).setCell ⟨w.heap.size + 1, u, none⟩ (.int .i64 kk)).heap.size ∧ ∀ k, BkX p g c6 k → BkX p g c k ∨ Z ≤ k) := Hid.mk ⟨by have h1 := SQ.size; have h2 : (w6.alloc (.cells #[.int .i64 0, .int .i64 kk] 37)).heap.size = w6.heap.size + 1 := World.size_alloc _ _; have := hZw.out; omega, hW6.out⟩
        have hdr8 : Hid (mvR fr (zs.drop (k + 1)) (updP pl u kk) ls = M ∧ PlOk (updP pl u kk) ∧ ls.length ≤ 400) := Hid.mk ⟨HS.out.symm, HPO.out.upd hpk, hput.out⟩
        clear H Hs O RP VR VS S SQ p0 p1 p2 p3 pz
        go_wp2
        go_roundw
        case rel => exact ⟨k + 1, c6, d6, updP pl u kk, ls, by omega, by go_num, hdr8, H8.out, Hs8.out, O8.out, RP8.out, VR8.out, S8.out, hW8⟩
        case measure => (simp [intOf]; omega)
      · rw [if_neg hc] at hs
        have e1 : putL tb r = tb := by unfold putL; rw [if_neg hc]
        have hcc : ((put tb r).c != 0) = true := by simp [hc]
        obtain ⟨e2, e3⟩ := put_no hc
        rw [e1, e2] at CU
        have HS := Hid.mk hs
        have HC := Hid.mk hc
        clear hs e1 e2 e3 hput hpk hc
        generalize (put tb r).c = kc at *
        obtain ⟨s_VR, f_VR, z_VR⟩ := VR.open
        obtain ⟨s_VS, f_VS, z_VS⟩ := VS.open
        go_wp2_with fail
        refine (CW.out _ O.rd).mono ?_
        rintro e w41 ⟨r', hr', rfl, b41⟩
        clear s_VR f_VR z_VR s_VS f_VS z_VS
        have S41 := b41.size
        replace VR := VR.kept b41
        replace VS := VS.kept b41
        replace H := H.kept b41
        replace Hs := Hs.kept b41
        replace O := O.kept b41
        replace RP := RP.kept b41
        replace S := S.trans (Sm.below b41)
        clear b41
        obtain ⟨s_VR, f_VR, z_VR⟩ := VR.open
        obtain ⟨s_VS, f_VS, z_VS⟩ := VS.open
        rw [HR.out] at hr'
        subst hr'
        go_wp2_with fail
        refine (CU.out _ H).mono ?_
        rintro e w6 ⟨c6, d6, rfl, H6, S6, hc6⟩
        clear s_VR f_VR z_VR s_VS f_VS z_VS
        have hsz6 := S6.size
        have hsz5 := S.size
        replace hc6 := Hid.mk hc6
        have hNB : Hid (∀ k, BkX p g c1 k → ¬ BkX ps gs (some ⟨b1, o1, none⟩) k ∧ k ≠ w.heap.size ∧ k ≠ w.heap.size + 1 ∧ k ≠ g4) := hDJ
        replace Hs := Hs.sm S6 (fun k e => (hDJ.out k e).1)
        replace O := O.sm S6 (fun b hb e => by simp only [Option.some.injEq] at hb; subst hb; exact (hDJ.out _ e).2.2.1 rfl)
        replace RP := RP.sm S6 (fun b hb e => by simp only [Option.some.injEq] at hb; subst hb; exact (hDJ.out _ e).2.2.2 rfl)
        replace VR := VR.sm S6 (fun e => (hDJ.out _ e).2.1 rfl)
        replace VS := VS.sm S6 (fun e => (hDJ.out _ e).1 (.inl rfl))
        have hZw : Hid (Z ≤ w6.heap.size) := Hid.mk (by have := hW.out.1; omega)
        have hW6 : Hid (∀ k, BkX p g c6 k → BkX p g c k ∨ Z ≤ k) := Hid.mk (fun k hk => by
          by_cases hkk : k < w41.heap.size
          · exact hW.out.2 k (hc6.out k hk hkk)
          · have := hW.out.1; exact .inr (by omega))
        replace S := Sm.less S.size S6 (fun k hk hx => by rcases hW.out.2 k hx with h | h; exact h; have := hW.out.1; omega) S
        clear S6 H hNB
        have H := H6
        clear H6
        replace VR := VR.kept (belowA w6 (.cells #[.int .i64 kc, .int .i64 0] 37))
        replace VS := VS.kept (belowA w6 (.cells #[.int .i64 kc, .int .i64 0] 37))
        replace H := H.kept (belowA w6 (.cells #[.int .i64 kc, .int .i64 0] 37))
        replace Hs := Hs.kept (belowA w6 (.cells #[.int .i64 kc, .int .i64 0] 37))
        replace O := O.kept (belowA w6 (.cells #[.int .i64 kc, .int .i64 0] 37))
        replace RP := RP.kept (belowA w6 (.cells #[.int .i64 kc, .int .i64 0] 37))
        replace S := S.trans (Sm.below (belowA w6 (.cells #[.int .i64 kc, .int .i64 0] 37)))
        have VX := V.new w6 [.int .i64 kc, .int .i64 0] 37
        obtain ⟨s_VR, f_VR, z_VR⟩ := VR.open
        obtain ⟨s_VS, f_VS, z_VS⟩ := VS.open
        obtain ⟨s_VX, f_VX, z_VX⟩ := VX.open
        clear s_VR f_VR z_VR s_VS f_VS z_VS s_VX f_VX z_VX
        have VF := Hid.mk (VR.filled [.int .i64 kc, .int .i64 0] rfl)
        have HT := Hid.mk VR.there
        have SR := Hid.mk (Sm.newCells S (show w.heap.size ≤ w.heap.size by (first | omega | (simp; done) | (simp; omega))) 0 [.int .i64 kc, .int .i64 0])
        have HO : Hid (Bk _ base p g c6 d6 M.tb) := Hid.mk (by have h5 := H.apart (B := w.heap.size) (fun k hk e => by subst e; rcases hW6.out _ hk with h3 | h3; have := (HLT.out _ h3).2; omega; omega) 0 [.int .i64 kc, .int .i64 0]; rw [HS.out]; exact h5)
        obtain ⟨s_VR, f_VR, z_VR⟩ := VR.open
        obtain ⟨s_VS, f_VS, z_VS⟩ := VS.open
        obtain ⟨s_VX, f_VX, z_VX⟩ := VX.open
        go_wp2_with (refine wpList_store_mid rfl 37 _ _ rfl (w.heap.size) 0 #[.int .i64 kc, .int .i64 0] rfl rfl HT.out (by kernel_rfl) (by kernel_rfl) ?_)
        refine bodyPost_ret (v := .agg #[.int .i64 kc, .int .i64 0]) (results_row Tryz.results47 _ _ (w.heap.size) [.int .i64 kc, .int .i64 0] _ rfl VF.out Tryz.underlying37 rfl (by kernel_rfl)) rfl ⟨c6, d6, by rw [HS.out, if_neg HC.out], HO.out, SR.out, fun k hk hlt => by rcases hW6.out k hk with h | h; exact h; omega⟩
    · obtain rfl : k = l := by omega
      have hMM := hdr.out.1
      rw [mvR_end fr zs pl tb k (by rw [HK.out]; exact Nat.le_refl _)] at hMM
      have HM := Hid.mk hMM
      have pm := tab_cell O hm
      clear hMM hdr
      obtain ⟨s_VR, f_VR, z_VR⟩ := VR.open
      clear s_VR f_VR z_VR
      have VF := Hid.mk (VR.filled [.int .i64 0, .int .i64 (pl m)] rfl)
      have HT := Hid.mk VR.there
      have SR := Hid.mk (Sm.newCells S (show w.heap.size ≤ w.heap.size by (first | omega | (simp; done) | (simp; omega))) 0 [.int .i64 0, .int .i64 (pl m)])
      have HO : Hid (Bk _ base p g c1 d1 M.tb) := Hid.mk (by have h5 := H.apart (B := w.heap.size) (fun k hk e => (hDJ.out k hk).2.1 e) 0 [.int .i64 0, .int .i64 (pl m)]; rw [← HM.out]; exact h5)
      obtain ⟨s_VR, f_VR, z_VR⟩ := VR.open
      go_wp2_with (refine wpList_store_mid rfl 37 _ _ rfl (w.heap.size) 0 #[.int .i64 0, .int .i64 (pl m)] rfl rfl HT.out (by kernel_rfl) (by kernel_rfl) ?_)
      refine bodyPost_ret (v := .agg #[.int .i64 0, .int .i64 (pl m)]) (results_row Tryz.results47 _ _ (w.heap.size) [.int .i64 0, .int .i64 (pl m)] _ rfl VF.out Tryz.underlying37 rfl (by kernel_rfl)) rfl ⟨c1, d1, by rw [← HM.out]; rfl, HO.out, SR.out, fun k hk hlt => by rcases hW.out.2 k hk with h | h; exact h; omega⟩

end Go.Proofs.YtfldgeokigcokaaGreat

/- Terms moved: the model. -/
namespace Go.Proofs.YtfldgeokigcokaaGreat
open Go.RowKit

/-- What a call of 'l5Move' leaves. -/
def MoveAt (M : Mv) (m : Nat) (w : World) (e : Ending) (w' : World) : Prop :=
  ∃ c d, e = .returned (.agg #[.int .i64 M.c, .int .i64 (if M.c = 0 then M.pl m else 0), .slice c (if M.c = 0 then M.tb else []).length d]) ∧ OwnTerm w' w.heap.size c d (if M.c = 0 then M.tb else []) ∧ Below w.heap.size w w'

end Go.Proofs.YtfldgeokigcokaaGreat

/- MoveTerm: the program. -/
namespace Go.Proofs.YtfldgeokigcokaaGreat
open Go.RowKit

theorem mvP_ways (fr : List T4) (q : Int) (tb : List T4) : ((mvR fr (prL fr q.toNat) (fun _ => 0) tb).c = 0 ∧ mvP fr q tb = ⟨0, (mvR fr (prL fr q.toNat) (fun _ => 0) tb).pl q, (mvR fr (prL fr q.toNat) (fun _ => 0) tb).tb⟩) ∨ ((mvR fr (prL fr q.toNat) (fun _ => 0) tb).c ≠ 0 ∧ mvP fr q tb = ⟨(mvR fr (prL fr q.toNat) (fun _ => 0) tb).c, 0, []⟩) := by
  unfold mvP
  by_cases h : (mvR fr (prL fr q.toNat) (fun _ => 0) tb).c = 0
  · exact .inl ⟨h, by rw [if_pos h]⟩
  · exact .inr ⟨h, by rw [if_neg h]⟩

set_option maxRecDepth 20000 in
set_option maxHeartbeats 4000000 in
theorem implMoveTerm_ok (a : Option Addr) (n ca : Nat) (fr : List T4) (q : Int) (b : Option Addr) (nb cb : Nat) (tb : List T4) (w : World) (ha : RdTerm w a fr) (hn : fr.length = n) (hx : n ≤ 1048576) (hok : ∀ t ∈ fr, okT t) (hb : RdTerm w b tb) (hnb : tb.length = nb) (hxb : nb ≤ 1048576) (hokb : ∀ t ∈ tb, okT t) :
    Calls Tryz.prog 22 #[.slice a n ca, .int .i64 q, .slice b nb cb] w fun e w' => ∃ c d, e = .returned (.agg #[.int .i64 (mvF fr q tb).c, .int .i64 (mvF fr q tb).k, .slice c (mvF fr q tb).l.length d]) ∧ OwnTerm w' w.heap.size c d (mvF fr q tb).l ∧ Below w.heap.size w w' := by
  have q1 := build_tr0'
  have HW := mvF_ways fr q tb
  rw [hn] at HW
  rcases HW with ⟨h1, hr⟩ | ⟨h1, h2, hr⟩ | ⟨h1, h2, h3, hr⟩ | ⟨h1, h2, h3, hr⟩
  · have h2 : (tfC fr != 0) = true := by simp [h1]
    have CB := Hid.mk (fun w h => bookOf_no a n ca fr w h hn (by unfold maxLen; omega) hok h1)
    rw [hr]
    clear hr h1
    generalize tfC fr = kk at *
    go_enter Tryz.func22, Tryz.ntmps22
    have B := Below.refl w.heap.size w
    replace ha := ha.kept (belowA w (.cells #[.int .i64 0, .int .i64 0, .slice none 0 0] 28))
    replace hb := hb.kept (belowA w (.cells #[.int .i64 0, .int .i64 0, .slice none 0 0] 28))
    replace B := thenB B (belowA w (.cells #[.int .i64 0, .int .i64 0, .slice none 0 0] 28))
    have VR := V.new w [.int .i64 0, .int .i64 0, .slice none 0 0] 28
    obtain ⟨s_VR, f_VR, z_VR⟩ := VR.open
    have Bo := B
    go_wp2_with fail
    refine (CB.out _ ha).mono ?_
    rintro e w1 ⟨rfl, b1⟩
    clear s_VR f_VR z_VR
    have S1 := b1.size
    simp only [World.size_alloc] at S1
    replace VR := VR.kept b1
    replace ha := ha.kept b1
    replace hb := hb.kept b1
    replace B := thenB B b1
    clear b1
    obtain ⟨s_VR, f_VR, z_VR⟩ := VR.open
    have Bo := B
    clear s_VR f_VR z_VR
    have VF := Hid.mk (VR.filled [.int .i64 kk, .int .i64 0, .slice none 0 0] rfl)
    have HT := Hid.mk VR.there
    have BR := belowCells B (show w.heap.size ≤ w.heap.size by (first | omega | (simp; done) | (simp; omega))) 0 [.int .i64 kk, .int .i64 0, .slice none 0 0]
    replace BR := Hid.mk BR
    obtain ⟨s_VR, f_VR, z_VR⟩ := VR.open
    go_wp2_with (refine wpList_store_mid rfl 28 _ _ rfl (w.heap.size) 0 #[.int .i64 kk, .int .i64 0, .slice none 0 0] rfl rfl HT.out (by kernel_rfl) (by kernel_rfl) ?_)
    refine bodyPost_ret (v := .agg #[.int .i64 kk, .int .i64 0, .slice none 0 0]) (results_row Tryz.results22 _ _ (w.heap.size) [.int .i64 kk, .int .i64 0, .slice none 0 0] _ rfl VF.out Tryz.underlying28 rfl (by kernel_rfl)) rfl ⟨none, 0, rfl, OwnTerm.none, BR.out⟩
  · have h3 : (tfC tb != 0) = true := by simp [h2]
    have CB := Hid.mk (fun w h => bookOf_yes a n ca fr w h hn (by unfold maxLen; omega) hok h1)
    have CB2 := Hid.mk (fun w h => bookOf_no b nb cb tb w h hnb (by unfold maxLen; omega) hokb h2)
    rw [hr]
    clear hr h1 h2
    generalize tfC tb = kk at *
    go_enter Tryz.func22, Tryz.ntmps22
    have B := Below.refl w.heap.size w
    replace ha := ha.kept (belowA w (.cells #[.int .i64 0, .int .i64 0, .slice none 0 0] 28))
    replace hb := hb.kept (belowA w (.cells #[.int .i64 0, .int .i64 0, .slice none 0 0] 28))
    replace B := thenB B (belowA w (.cells #[.int .i64 0, .int .i64 0, .slice none 0 0] 28))
    have VR := V.new w [.int .i64 0, .int .i64 0, .slice none 0 0] 28
    obtain ⟨s_VR, f_VR, z_VR⟩ := VR.open
    have Bo := B
    go_wp2_with fail
    refine (CB.out _ ha).mono ?_
    rintro e w11 ⟨p, g, c0, d0, rfl, H, b11⟩
    clear s_VR f_VR z_VR
    have S11 := b11.size
    simp only [World.size_alloc] at S11
    replace VR := VR.kept b11
    replace ha := ha.kept b11
    replace hb := hb.kept b11
    replace B := thenB B b11
    clear b11
    obtain ⟨s_VR, f_VR, z_VR⟩ := VR.open
    have Bo := B
    go_wp2_with fail
    refine (CB2.out _ hb).mono ?_
    rintro e w12 ⟨rfl, b12⟩
    clear s_VR f_VR z_VR
    have S12 := b12.size
    replace VR := VR.kept b12
    replace ha := ha.kept b12
    replace hb := hb.kept b12
    replace H := H.kept b12
    replace B := thenB B b12
    clear b12
    obtain ⟨s_VR, f_VR, z_VR⟩ := VR.open
    have Bo := B
    clear s_VR f_VR z_VR
    have VF := Hid.mk (VR.filled [.int .i64 kk, .int .i64 0, .slice none 0 0] rfl)
    have HT := Hid.mk VR.there
    have BR := belowCells B (show w.heap.size ≤ w.heap.size by (first | omega | (simp; done) | (simp; omega))) 0 [.int .i64 kk, .int .i64 0, .slice none 0 0]
    replace BR := Hid.mk BR
    obtain ⟨s_VR, f_VR, z_VR⟩ := VR.open
    go_wp2_with (refine wpList_store_mid rfl 28 _ _ rfl (w.heap.size) 0 #[.int .i64 kk, .int .i64 0, .slice none 0 0] rfl rfl HT.out (by kernel_rfl) (by kernel_rfl) ?_)
    refine bodyPost_ret (v := .agg #[.int .i64 kk, .int .i64 0, .slice none 0 0]) (results_row Tryz.results22 _ _ (w.heap.size) [.int .i64 kk, .int .i64 0, .slice none 0 0] _ rfl VF.out Tryz.underlying28 rfl (by kernel_rfl)) rfl ⟨none, 0, rfl, OwnTerm.none, BR.out⟩
  · rw [hr]
    have CB := Hid.mk (fun w h => bookOf_yes a n ca fr w h hn (by unfold maxLen; omega) hok h1)
    have CB2 := Hid.mk (fun w h => bookOf_yes b nb cb tb w h hnb (by unfold maxLen; omega) hokb h2)
    have CA := Hid.mk (fun w c0 d0 c1 d1 h => arePlaces_ok c0 n d0 c1 1 d1 [q] w h rfl (by unfold maxLen; omega) (by unfold maxLen; omega))
    rw [plsOk_one, h3] at CA
    clear hr h1 h2 h3
    go_enter Tryz.func22, Tryz.ntmps22
    have B := Below.refl w.heap.size w
    replace ha := ha.kept (belowA w (.cells #[.int .i64 0, .int .i64 0, .slice none 0 0] 28))
    replace hb := hb.kept (belowA w (.cells #[.int .i64 0, .int .i64 0, .slice none 0 0] 28))
    replace B := thenB B (belowA w (.cells #[.int .i64 0, .int .i64 0, .slice none 0 0] 28))
    have VR := V.new w [.int .i64 0, .int .i64 0, .slice none 0 0] 28
    obtain ⟨s_VR, f_VR, z_VR⟩ := VR.open
    have Bo := B
    go_wp2_with fail
    refine (CB.out _ ha).mono ?_
    rintro e w21 ⟨p, g, c0, d0, rfl, H, b21⟩
    clear s_VR f_VR z_VR
    have S21 := b21.size
    simp only [World.size_alloc] at S21
    replace VR := VR.kept b21
    replace ha := ha.kept b21
    replace hb := hb.kept b21
    replace B := thenB B b21
    clear b21
    obtain ⟨s_VR, f_VR, z_VR⟩ := VR.open
    have Bo := B
    have HLT1 := Hid.mk H.lt
    have hvr := Hid.mk VR.1
    go_wp2_with fail
    refine (CB2.out _ hb).mono ?_
    rintro e w22 ⟨p2, g2, c2, d2, rfl, H2, b22⟩
    clear s_VR f_VR z_VR
    have S22 := b22.size
    replace VR := VR.kept b22
    replace ha := ha.kept b22
    replace hb := hb.kept b22
    replace H := H.kept b22
    replace B := thenB B b22
    clear b22
    obtain ⟨s_VR, f_VR, z_VR⟩ := VR.open
    have Bo := B
    have HLT2 := Hid.mk H2.lt
    have VP := H.v
    rw [hn] at VP
    clear s_VR f_VR z_VR
    obtain ⟨s_VR, f_VR, z_VR⟩ := VR.open
    obtain ⟨s_VP, f_VP, z_VP⟩ := VP.open
    have Bo := B
    have hR1 := (OwnI.lit w22 [q] [.int .i64 q] rfl (by unfold maxLen; simp)).rd
    go_wp2_with fail
    refine (CA.out _ _ _ _ _ hR1).mono ?_
    rintro e wq ⟨rfl, rfl⟩
    clear s_VR f_VR z_VR s_VP f_VP z_VP
    replace VR := VR.kept (belowA w22 (.cells #[.int .i64 q] 2))
    replace VP := VP.kept (belowA w22 (.cells #[.int .i64 q] 2))
    replace ha := ha.kept (belowA w22 (.cells #[.int .i64 q] 2))
    replace hb := hb.kept (belowA w22 (.cells #[.int .i64 q] 2))
    replace H := H.kept (belowA w22 (.cells #[.int .i64 q] 2))
    replace H2 := H2.kept (belowA w22 (.cells #[.int .i64 q] 2))
    replace B := thenB B (belowA w22 (.cells #[.int .i64 q] 2))
    obtain ⟨s_VR, f_VR, z_VR⟩ := VR.open
    obtain ⟨s_VP, f_VP, z_VP⟩ := VP.open
    have Bo := B
    clear s_VR f_VR z_VR s_VP f_VP z_VP
    have VF := Hid.mk (VR.filled [.int .i64 3, .int .i64 0, .slice none 0 0] rfl)
    have HT := Hid.mk VR.there
    have BR := belowCells B (show w.heap.size ≤ w.heap.size by (first | omega | (simp; done) | (simp; omega))) 0 [.int .i64 3, .int .i64 0, .slice none 0 0]
    replace BR := Hid.mk BR
    obtain ⟨s_VR, f_VR, z_VR⟩ := VR.open
    obtain ⟨s_VP, f_VP, z_VP⟩ := VP.open
    go_wp2_with (refine wpList_store_mid rfl 28 _ _ rfl (w.heap.size) 0 #[.int .i64 3, .int .i64 0, .slice none 0 0] rfl rfl HT.out (by kernel_rfl) (by kernel_rfl) ?_)
    refine bodyPost_ret (v := .agg #[.int .i64 3, .int .i64 0, .slice none 0 0]) (results_row Tryz.results22 _ _ (w.heap.size) [.int .i64 3, .int .i64 0, .slice none 0 0] _ rfl VF.out Tryz.underlying28 rfl (by kernel_rfl)) rfl ⟨none, 0, rfl, OwnTerm.none, BR.out⟩
  · rw [hr]
    have CB := Hid.mk (fun w h => bookOf_yes a n ca fr w h hn (by unfold maxLen; omega) hok h1)
    have CB2 := Hid.mk (fun w h => bookOf_yes b nb cb tb w h hnb (by unfold maxLen; omega) hokb h2)
    have CA := Hid.mk (fun w c0 d0 c1 d1 h => arePlaces_ok c0 n d0 c1 1 d1 [q] w h rfl (by unfold maxLen; omega) (by unfold maxLen; omega))
    rw [plsOk_one, h3] at CA
    have HV := h1
    have hl4 := (tfC_zero h2).1
    obtain ⟨hq0, hq1⟩ := btw_iff.1 h3
    obtain ⟨m, rfl⟩ : ∃ m : Nat, q = (m : Int) := ⟨q.toNat, by omega⟩
    have hm : m < n := by omega
    have CT := Hid.mk (fun base p g c d base' ps gs cs ds M hM w H Hs hd => takeOver_ok base p g c d tb base' ps gs cs ds fr n m w H Hs hn HV hok hm hl4 hd M hM)
    obtain ⟨M, hM⟩ : ∃ M, mvR fr (prL fr m) (fun _ => 0) tb = M := ⟨_, rfl⟩
    have hP := mvP_ways fr (m : Int) tb
    rw [Int.toNat_natCast, hM] at hP
    replace hM := Hid.mk hM
    clear hr h1 h2 h3 hq0 hq1 HV
    rcases hP with ⟨hc, hr⟩ | ⟨hc, hr⟩
    · rw [hr]
      obtain ⟨kl, hkl⟩ : ∃ l, M.tb.length = l := ⟨_, rfl⟩
      rw [hkl]
      replace hkl := Hid.mk hkl
      obtain ⟨kk, hkk⟩ : ∃ k, M.pl m = k := ⟨_, rfl⟩
      replace CT : Hid _ := CT
      rw [hkk]
      have hif : (if M.c = 0 then M.pl m else 0) = kk := by rw [if_pos hc, hkk]
      clear hkk hr
      go_enter Tryz.func22, Tryz.ntmps22
      have B := Below.refl w.heap.size w
      replace ha := ha.kept (belowA w (.cells #[.int .i64 0, .int .i64 0, .slice none 0 0] 28))
      replace hb := hb.kept (belowA w (.cells #[.int .i64 0, .int .i64 0, .slice none 0 0] 28))
      replace B := thenB B (belowA w (.cells #[.int .i64 0, .int .i64 0, .slice none 0 0] 28))
      have VR := V.new w [.int .i64 0, .int .i64 0, .slice none 0 0] 28
      obtain ⟨s_VR, f_VR, z_VR⟩ := VR.open
      have Bo := B
      go_wp2_with fail
      refine (CB.out _ ha).mono ?_
      rintro e w31 ⟨p, g, c0, d0, rfl, H, b31⟩
      clear s_VR f_VR z_VR
      have S31 := b31.size
      simp only [World.size_alloc] at S31
      replace VR := VR.kept b31
      replace ha := ha.kept b31
      replace hb := hb.kept b31
      replace B := thenB B b31
      clear b31
      obtain ⟨s_VR, f_VR, z_VR⟩ := VR.open
      have Bo := B
      have HLT1 := Hid.mk H.lt
      have hvr := Hid.mk VR.1
      go_wp2_with fail
      refine (CB2.out _ hb).mono ?_
      rintro e w32 ⟨p2, g2, c2, d2, rfl, H2, b32⟩
      clear s_VR f_VR z_VR
      have S32 := b32.size
      replace VR := VR.kept b32
      replace ha := ha.kept b32
      replace hb := hb.kept b32
      replace H := H.kept b32
      replace B := thenB B b32
      clear b32
      obtain ⟨s_VR, f_VR, z_VR⟩ := VR.open
      have Bo := B
      have HLT2 := Hid.mk H2.lt
      have VP := H.v
      rw [hn] at VP
      clear s_VR f_VR z_VR
      obtain ⟨s_VR, f_VR, z_VR⟩ := VR.open
      obtain ⟨s_VP, f_VP, z_VP⟩ := VP.open
      have Bo := B
      have hR1 := (OwnI.lit w32 [(m : Int)] [.int .i64 m] rfl (by unfold maxLen; simp)).rd
      go_wp2_with fail
      refine (CA.out _ _ _ _ _ hR1).mono ?_
      rintro e wq ⟨rfl, rfl⟩
      clear s_VR f_VR z_VR s_VP f_VP z_VP
      replace VR := VR.kept (belowA w32 (.cells #[.int .i64 m] 2))
      replace VP := VP.kept (belowA w32 (.cells #[.int .i64 m] 2))
      replace ha := ha.kept (belowA w32 (.cells #[.int .i64 m] 2))
      replace hb := hb.kept (belowA w32 (.cells #[.int .i64 m] 2))
      replace H := H.kept (belowA w32 (.cells #[.int .i64 m] 2))
      replace H2 := H2.kept (belowA w32 (.cells #[.int .i64 m] 2))
      replace B := thenB B (belowA w32 (.cells #[.int .i64 m] 2))
      obtain ⟨s_VR, f_VR, z_VR⟩ := VR.open
      obtain ⟨s_VP, f_VP, z_VP⟩ := VP.open
      have Bo := B
      go_wp2_with fail
      refine (CT.out _ p2 g2 c2 d2 _ p g c0 d0 M hM.out _ H2 H (fun k hk e => by have h1 := (HLT2.out k hk).1; have h2 := (HLT1.out k e).2; omega)).mono ?_
      rintro e w9 ⟨c, d, rfl, H9, S9, -⟩
      rw [hif, hc]
      clear s_VR f_VR z_VR s_VP f_VP z_VP
      have hvb := hvr.out
      have VRN : Hid (¬ BkX p2 g2 c2 w.heap.size) := Hid.mk (fun e => by have := (HLT2.out _ e).1; (try simp at *); omega)
      replace VR := VR.sm S9 VRN.out
      have B9 := S9.below' B (by have := B.size; omega) (fun j hj => by have := (HLT2.out j hj).1; have := hvr.out; omega)
      clear S9 H H2 VP ha hb B Bo hR1
      have B := B9
      clear B9
      have VP := H9.v
      rw [hkl.out] at VP
      have CN := Hid.mk (fun w h => answer_yes p2 g2 c kl d kk w h)
      obtain ⟨s_VR, f_VR, z_VR⟩ := VR.open
      have Bo := B
      go_wp2_with fail
      refine (CN.out _ VP).mono ?_
      rintro e w33 ⟨rfl, b33⟩
      clear s_VR f_VR z_VR
      have S33 := b33.size
      replace VR := VR.kept b33
      replace H9 := H9.kept b33
      replace B := thenB B b33
      clear b33
      obtain ⟨s_VR, f_VR, z_VR⟩ := VR.open
      have Bo := B
      have OL := Hid.mk (fun b hb => (H9.o.lt b hb).1)
      have hQW := hvr.out
      clear s_VR f_VR z_VR
      have VF := Hid.mk (VR.filled [.int .i64 0, .int .i64 kk, .slice c kl d] rfl)
      have HT := Hid.mk VR.there
      have BR := belowCells B (show w.heap.size ≤ w.heap.size by (first | omega | (simp; done) | (simp; omega))) 0 [.int .i64 0, .int .i64 kk, .slice c kl d]
      replace BR := Hid.mk BR
      have HO := Hid.mk ((H9.o.mono (show w.heap.size ≤ _ by first | omega | (simp; done) | (simp; omega))).apart (B := w.heap.size) (by intro b hb; have := OL.out b hb; first | omega | (simp at this; omega)) 0 [.int .i64 0, .int .i64 kk, .slice c kl d])
      obtain ⟨s_VR, f_VR, z_VR⟩ := VR.open
      go_wp2_with (refine wpList_store_mid rfl 28 _ _ rfl (w.heap.size) 0 #[.int .i64 0, .int .i64 kk, .slice c kl d] rfl rfl HT.out (by kernel_rfl) (by kernel_rfl) ?_)
      refine bodyPost_ret (v := .agg #[.int .i64 0, .int .i64 kk, .slice c kl d]) (results_row Tryz.results22 _ _ (w.heap.size) [.int .i64 0, .int .i64 kk, .slice c kl d] _ rfl VF.out Tryz.underlying28 rfl (by kernel_rfl)) rfl ⟨c, d, rfl, HO.out, BR.out⟩
    · rw [hr]
      have HC := Hid.mk hc
      have hif : (if M.c = 0 then M.pl m else 0) = 0 := by rw [if_neg hc]
      obtain ⟨kc, hkc⟩ : ∃ k, M.c = k := ⟨_, rfl⟩
      rw [hkc] at HC ⊢
      clear hr hc
      go_enter Tryz.func22, Tryz.ntmps22
      have B := Below.refl w.heap.size w
      replace ha := ha.kept (belowA w (.cells #[.int .i64 0, .int .i64 0, .slice none 0 0] 28))
      replace hb := hb.kept (belowA w (.cells #[.int .i64 0, .int .i64 0, .slice none 0 0] 28))
      replace B := thenB B (belowA w (.cells #[.int .i64 0, .int .i64 0, .slice none 0 0] 28))
      have VR := V.new w [.int .i64 0, .int .i64 0, .slice none 0 0] 28
      obtain ⟨s_VR, f_VR, z_VR⟩ := VR.open
      have Bo := B
      go_wp2_with fail
      refine (CB.out _ ha).mono ?_
      rintro e w61 ⟨p, g, c0, d0, rfl, H, b61⟩
      clear s_VR f_VR z_VR
      have S61 := b61.size
      simp only [World.size_alloc] at S61
      replace VR := VR.kept b61
      replace ha := ha.kept b61
      replace hb := hb.kept b61
      replace B := thenB B b61
      clear b61
      obtain ⟨s_VR, f_VR, z_VR⟩ := VR.open
      have Bo := B
      have HLT1 := Hid.mk H.lt
      have hvr := Hid.mk VR.1
      go_wp2_with fail
      refine (CB2.out _ hb).mono ?_
      rintro e w62 ⟨p2, g2, c2, d2, rfl, H2, b62⟩
      clear s_VR f_VR z_VR
      have S62 := b62.size
      replace VR := VR.kept b62
      replace ha := ha.kept b62
      replace hb := hb.kept b62
      replace H := H.kept b62
      replace B := thenB B b62
      clear b62
      obtain ⟨s_VR, f_VR, z_VR⟩ := VR.open
      have Bo := B
      have HLT2 := Hid.mk H2.lt
      have VP := H.v
      rw [hn] at VP
      clear s_VR f_VR z_VR
      obtain ⟨s_VR, f_VR, z_VR⟩ := VR.open
      obtain ⟨s_VP, f_VP, z_VP⟩ := VP.open
      have Bo := B
      have hR1 := (OwnI.lit w62 [(m : Int)] [.int .i64 m] rfl (by unfold maxLen; simp)).rd
      go_wp2_with fail
      refine (CA.out _ _ _ _ _ hR1).mono ?_
      rintro e wq ⟨rfl, rfl⟩
      clear s_VR f_VR z_VR s_VP f_VP z_VP
      replace VR := VR.kept (belowA w62 (.cells #[.int .i64 m] 2))
      replace VP := VP.kept (belowA w62 (.cells #[.int .i64 m] 2))
      replace ha := ha.kept (belowA w62 (.cells #[.int .i64 m] 2))
      replace hb := hb.kept (belowA w62 (.cells #[.int .i64 m] 2))
      replace H := H.kept (belowA w62 (.cells #[.int .i64 m] 2))
      replace H2 := H2.kept (belowA w62 (.cells #[.int .i64 m] 2))
      replace B := thenB B (belowA w62 (.cells #[.int .i64 m] 2))
      obtain ⟨s_VR, f_VR, z_VR⟩ := VR.open
      obtain ⟨s_VP, f_VP, z_VP⟩ := VP.open
      have Bo := B
      go_wp2_with fail
      refine (CT.out _ p2 g2 c2 d2 _ p g c0 d0 M hM.out _ H2 H (fun k hk e => by have h1 := (HLT2.out k hk).1; have h2 := (HLT1.out k e).2; omega)).mono ?_
      rintro e w9 ⟨c, d, rfl, H9, S9, -⟩
      rw [hif, hkc]
      clear s_VR f_VR z_VR s_VP f_VP z_VP
      have hvb := hvr.out
      have VRN : Hid (¬ BkX p2 g2 c2 w.heap.size) := Hid.mk (fun e => by have := (HLT2.out _ e).1; (try simp at *); omega)
      replace VR := VR.sm S9 VRN.out
      have B9 := S9.below' B (by have := B.size; omega) (fun j hj => by have := (HLT2.out j hj).1; have := hvr.out; omega)
      clear S9 H H2 VP ha hb B Bo hR1
      have B := B9
      clear B9
      have VP := H9.v
      have CN := Hid.mk (fun w h => answer_no p2 g2 c M.tb.length d kc HC.out w h)
      have HC2 := HC.out
      obtain ⟨s_VR, f_VR, z_VR⟩ := VR.open
      have Bo := B
      go_wp2_with fail
      refine (CN.out _ VP).mono ?_
      rintro e w63 ⟨rfl, b63⟩
      clear s_VR f_VR z_VR
      have S63 := b63.size
      replace VR := VR.kept b63
      replace B := thenB B b63
      clear b63
      obtain ⟨s_VR, f_VR, z_VR⟩ := VR.open
      have Bo := B
      clear s_VR f_VR z_VR
      have VF := Hid.mk (VR.filled [.int .i64 kc, .int .i64 0, .slice none 0 0] rfl)
      have HT := Hid.mk VR.there
      have BR := belowCells B (show w.heap.size ≤ w.heap.size by (first | omega | (simp; done) | (simp; omega))) 0 [.int .i64 kc, .int .i64 0, .slice none 0 0]
      replace BR := Hid.mk BR
      obtain ⟨s_VR, f_VR, z_VR⟩ := VR.open
      go_wp2_with (refine wpList_store_mid rfl 28 _ _ rfl (w.heap.size) 0 #[.int .i64 kc, .int .i64 0, .slice none 0 0] rfl rfl HT.out (by kernel_rfl) (by kernel_rfl) ?_)
      refine bodyPost_ret (v := .agg #[.int .i64 kc, .int .i64 0, .slice none 0 0]) (results_row Tryz.results22 _ _ (w.heap.size) [.int .i64 kc, .int .i64 0, .slice none 0 0] _ rfl VF.out Tryz.underlying28 rfl (by kernel_rfl)) rfl ⟨none, 0, rfl, OwnTerm.none, BR.out⟩

end Go.Proofs.YtfldgeokigcokaaGreat

/- MoveTerm: the model. -/
namespace Go.Proofs.YtfldgeokigcokaaGreat
open Go.RowKit

end Go.Proofs.YtfldgeokigcokaaGreat
