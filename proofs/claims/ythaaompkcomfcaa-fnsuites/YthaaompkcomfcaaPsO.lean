/- The suites of bytes: the model. -/
import Derived.Test.YthaaompkcomfcaaPsN
namespace Go.Proofs.Ythaaompkcomfcaa
open Go.RowKit

theorem deSu_at (ds : List Int) (p : Nat) (h : p + 3 < ds.length) : deSu (ds.drop p) = ⟨ds.getD p 0, 64 * ds.getD (p + 1) 0, ds.getD (p + 2) 0, ds.getD (p + 3) 0⟩ :: deSu (ds.drop (p + 4)) := by
  rw [deSu_drop (ds.drop p) (by rw [List.length_drop]; omega), List.drop_drop]
  simp only [List.getD, List.getElem?_drop, Nat.add_zero]

set_option maxRecDepth 20000 in
set_option maxHeartbeats 8000000 in
theorem specDecode_ok (a : Option Addr) (n ca : Nat) (ds : List Int) (w : World) (ha : Rd .u8 w a ds) (hb : Bytes ds) (hn : ds.length = n) (hc : n ≤ ca) (hx : ca ≤ maxLen) :
    Calls Try.prog 41 #[.slice a n ca] w fun e w' => ∃ (c : Option Addr) (d : Nat), e = .returned (.agg #[.int .i64 (dsC ds), .slice c (dsL ds).length d]) ∧ OwnSuite w' w.heap.size c d (dsL ds) ∧ Below w.heap.size w w' := by
  have hx0 := Hid.mk hx
  unfold maxLen at hx
  have hr4 := rem_four n
  by_cases h4 : n % 4 ≠ 0
  · rw [decide_eq_true h4] at hr4
    have E := Hid.mk (ds_odd (ds := ds) (by rw [hn]; exact h4))
    go_enter Try.func41, Try.ntmps41
    have B := Below.refl w.heap.size w
    replace B := thenB B (belowA w (.cells #[.int .i64 0, .slice none 0 0] 33))
    have VR := V.new w [.int .i64 0, .slice none 0 0] 33
    obtain ⟨s_VR, f_VR, z_VR⟩ := VR.open
    have Bo := B
    clear s_VR f_VR z_VR
    have VF := Hid.mk (VR.filled [.int .i64 5, .slice none 0 0] rfl)
    have BR := belowCells B (show w.heap.size ≤ w.heap.size by (first | omega | (simp; done) | (simp; omega))) 0 [.int .i64 5, .slice none 0 0]
    have HT := Hid.mk VR.there
    replace BR := Hid.mk BR
    obtain ⟨s_VR, f_VR, z_VR⟩ := VR.open
    go_wp2_with (refine wpList_store_mid rfl 33 _ _ rfl (w.heap.size) 0 #[.int .i64 5, .slice none 0 0] rfl rfl HT.out (by kernel_rfl) (by kernel_rfl) ?_)
    refine bodyPost_ret (v := .agg #[.int .i64 5, .slice none 0 0]) (results_row Try.results41 _ _ (w.heap.size) [.int .i64 5, .slice none 0 0] _ rfl VF.out Try.underlying33 rfl (by kernel_rfl)) rfl ⟨none, 0, by rw [E.out.1, E.out.2]; rfl, by rw [E.out.2]; exact OwnSuite.none, BR.out⟩
  have hr5 : ((n : Int) % 4 != 0) = false := by rw [bne_eq_false_iff_eq]; omega
  clear hr4
  have HA := Hid.mk ha
  go_enter Try.func41, Try.ntmps41
  have B := Below.refl w.heap.size w
  replace B := thenB B (belowA w (.cells #[.int .i64 0, .slice none 0 0] 33))
  have VR := V.new w [.int .i64 0, .slice none 0 0] 33
  have OE := OwnSuite.lit (w.alloc (.cells #[.int .i64 0, .slice none 0 0] 33)) [] [] rfl (Nat.zero_le _)
  simp only [World.size_alloc, List.length_nil] at OE
  replace VR := VR.kept (belowA (w.alloc (.cells #[.int .i64 0, .slice none 0 0] 33)) (.cells #[] 28))
  replace B := thenB B (belowA (w.alloc (.cells #[.int .i64 0, .slice none 0 0] 33)) (.cells #[] 28))
  replace OE := Hid.mk OE
  replace VR := Hid.mk VR
  replace B := Hid.mk B
  clear ha
  go_wp2
  go_loopw [3, 4] (fun t i wr => ∃ (k p d : Nat) (c : Option Addr) (os : List Su), i = .int .i64 p ∧ p = 4 * k ∧ t = .slice c k d ∧ os.length = k ∧ p ≤ n ∧ k ≤ 11 ∧ os ++ deSu (ds.drop p) = deSu ds ∧ OwnSuite wr (w.heap.size + 1) c d os ∧ V wr w.heap.size [.int .i64 0, .slice none 0 0] ∧ Below w.heap.size w wr) (fun _ i _ => n - (intOf i).toNat)
  case atStart => exact ⟨0, 0, 0, _, [], rfl, rfl, rfl, rfl, Nat.zero_le _, by omega, rfl, OE.out, VR.out, B.out⟩
  case round =>
    clear VR B OE
    obtain ⟨k, p, d, c, os, rfl, hp, rfl, hk, hpn, hk11, hde, O, VR, B⟩ := hrel
    by_cases hlt : p + 3 < n
    · have hl3 : (p : Int) + 3 < (n : Int) := by omega
      by_cases h10 : k ≤ 10
      · have h10i : (k : Int) ≤ 10 := by omega
        obtain ⟨d0, e0⟩ : ∃ z, ds.getD p 0 = z := ⟨_, rfl⟩
        obtain ⟨d1, e1⟩ : ∃ z, ds.getD (p + 1) 0 = z := ⟨_, rfl⟩
        obtain ⟨d2, e2⟩ : ∃ z, ds.getD (p + 2) 0 = z := ⟨_, rfl⟩
        obtain ⟨d3, e3⟩ : ∃ z, ds.getD (p + 3) 0 = z := ⟨_, rfl⟩
        have hst := deSu_at ds p (by omega)
        rw [e0, e1, e2, e3] at hst
        rw [hst] at hde
        have k0 := hb.at p
        have k1 := hb.at (p + 1)
        have k2 := hb.at (p + 2)
        have k3 := hb.at (p + 3)
        rw [e0] at k0
        rw [e1] at k1
        rw [e2] at k2
        rw [e3] at k3
        rcases HA.out with ha | ⟨b, o, rfl, hca⟩
        · rw [ha] at hn; simp at hn; omega
        have p0 := hca p (by omega)
        have p1 := hca (p + 1) (by omega)
        have p2 := hca (p + 2) (by omega)
        have p3 := hca (p + 3) (by omega)
        rw [e0] at p0
        rw [e1] at p1
        rw [e2] at p2
        rw [e3] at p3
        have j0 : p < n := by omega
        have j1 : p + 1 < n := by omega
        have j2 : p + 2 < n := by omega
        have j3 : p + 3 < n := by omega
        have i0 : (p : Int) < (n : Int) := by omega
        have i1 : (p : Int) + 1 < (n : Int) := by omega
        have i2 : (p : Int) + 2 < (n : Int) := by omega
        have z0 : (0 : Int) ≤ (p : Int) := by omega
        have z1 : 0 ≤ (p : Int) + 1 := by omega
        have z2 : 0 ≤ (p : Int) + 2 := by omega
        have z3 : 0 ≤ (p : Int) + 3 := by omega
        have t2 : ((p : Int) + 2).toNat = p + 2 := by omega
        have t3 : ((p : Int) + 3).toNat = p + 3 := by omega
        have v0 : IntKind.i64.wrap d0 = d0 := by rw [IntKind.wrap_i64]; omega
        have v1 : IntKind.i64.wrap d1 = d1 := by rw [IntKind.wrap_i64]; omega
        have v2 : IntKind.i64.wrap d2 = d2 := by rw [IntKind.wrap_i64]; omega
        have v3 : IntKind.i64.wrap d3 = d3 := by rw [IntKind.wrap_i64]; omega
        have u1 : IntKind.i64.wrap (64 * d1) = 64 * d1 := by rw [IntKind.wrap_i64]; omega
        have y1 : IntKind.i64.wrap ((p : Int) + 1) = (p : Int) + 1 := by rw [IntKind.wrap_i64]; omega
        have y2 : IntKind.i64.wrap ((p : Int) + 2) = (p : Int) + 2 := by rw [IntKind.wrap_i64]; omega
        have y3 : IntKind.i64.wrap ((p : Int) + 3) = (p : Int) + 3 := by rw [IntKind.wrap_i64]; omega
        have HK := Hid.mk hk
        have HD := Hid.mk (show (os ++ [⟨d0, 64 * d1, d2, d3⟩]) ++ deSu (ds.drop (p + 4)) = deSu ds by rw [← hde]; simp)
        have HP := Hid.mk hp
        clear hca e0 e1 e2 e3 hst hde hk hp
        have K : ∀ w' : World, Below w.heap.size w w' → (w'.cell? ⟨b, o + p, none⟩ = some (.int .u8 d0) ∧ w'.cell? ⟨b, o + (p + 1), none⟩ = some (.int .u8 d1) ∧ w'.cell? ⟨b, o + (p + 2), none⟩ = some (.int .u8 d2) ∧ w'.cell? ⟨b, o + (p + 3), none⟩ = some (.int .u8 d3)) := fun w' h => ⟨(h.cell (p := ⟨b, o + p, none⟩) (World.block_lt_of_cell? (a := ⟨b, o + p, none⟩) w p0)).trans p0, (h.cell (p := ⟨b, o + (p + 1), none⟩) (World.block_lt_of_cell? (a := ⟨b, o + (p + 1), none⟩) w p1)).trans p1, (h.cell (p := ⟨b, o + (p + 2), none⟩) (World.block_lt_of_cell? (a := ⟨b, o + (p + 2), none⟩) w p2)).trans p2, (h.cell (p := ⟨b, o + (p + 3), none⟩) (World.block_lt_of_cell? (a := ⟨b, o + (p + 3), none⟩) w p3)).trans p3⟩
        have K := Hid.mk K
        clear p0 p1 p2 p3
        go_upto_region 7 with fail
        refine wp_region_held_drew (S := (fun w' => w'.cell? ⟨b, o + p, none⟩ = some (.int .u8 d0) ∧ w'.cell? ⟨b, o + (p + 1), none⟩ = some (.int .u8 d1) ∧ w'.cell? ⟨b, o + (p + 2), none⟩ = some (.int .u8 d2) ∧ w'.cell? ⟨b, o + (p + 3), none⟩ = some (.int .u8 d3))) (by kernel_rfl) (K.out _ (thenB B (Below.refl _ _).drew)) (fun hHeld => ?_)
        have bd : Below wr.heap.size wr wr.drew := (Below.refl _ _).drew
        replace O := O.kept bd
        replace VR := VR.kept bd
        replace B := thenB B bd
        clear bd
        generalize wr.drew = wd at *
        refine wpAnyH_take (i := 0) (oi := _) (v := ?vru1) rfl (by kernel_rfl) (by kernel_rfl) (by kernel_rfl) (fun _ _ _ h => h) (Or.inl ⟨by kernel_rfl, ?hyru1⟩) hHeld ?restru1
        case hyru1 => (intro w hSw; (try dsimp only at hSw); go_simp; first | done | with_reducible rfl)
        try simp only [Act.put, List.getElem_toArray, List.getElem_cons_zero, List.setIfInBounds_toArray, List.set_cons_zero, List.set_cons_succ]
        refine wpAnyH_take (i := 1) (oi := _) (v := ?vru2) rfl (by kernel_rfl) (by kernel_rfl) (by kernel_rfl) (fun _ _ _ h => h) (Or.inl ⟨by kernel_rfl, ?hyru2⟩) hHeld ?restru2
        case hyru2 => (intro w hSw; (try dsimp only at hSw); go_simp; first | done | with_reducible rfl)
        try simp only [Act.put, List.getElem_toArray, List.getElem_cons_zero, List.getElem_cons_succ, List.setIfInBounds_toArray, List.set_cons_zero, List.set_cons_succ]
        refine wpAnyH_take (i := 2) (oi := _) (v := ?vru3) rfl (by kernel_rfl) (by kernel_rfl) (by kernel_rfl) (fun _ _ _ h => h) (Or.inl ⟨by kernel_rfl, ?hyru3⟩) hHeld ?restru3
        case hyru3 => (intro w hSw; (try dsimp only at hSw); go_simp; first | done | with_reducible rfl)
        try simp only [Act.put, List.getElem_toArray, List.getElem_cons_zero, List.getElem_cons_succ, List.setIfInBounds_toArray, List.set_cons_zero, List.set_cons_succ]
        refine wpAnyH_take (i := 3) (oi := _) (v := ?vru4) rfl (by kernel_rfl) (by kernel_rfl) (by kernel_rfl) (fun _ _ _ h => h) (Or.inl ⟨by kernel_rfl, ?hyru4⟩) hHeld ?restru4
        case hyru4 => (intro w hSw; (try dsimp only at hSw); go_simp; first | done | with_reducible rfl)
        try simp only [Act.put, List.getElem_toArray, List.getElem_cons_zero, List.getElem_cons_succ, List.setIfInBounds_toArray, List.set_cons_zero, List.set_cons_succ]
        refine wpAnyH_take (i := 4) (oi := _) (v := ?vru5) rfl (by kernel_rfl) (by kernel_rfl) (by kernel_rfl) (fun _ _ _ h => h) (Or.inl ⟨by kernel_rfl, ?hyru5⟩) hHeld ?restru5
        case hyru5 => (intro w hSw; (try dsimp only at hSw); go_simp; first | done | with_reducible rfl)
        try simp only [Act.put, List.getElem_toArray, List.getElem_cons_zero, List.getElem_cons_succ, List.setIfInBounds_toArray, List.set_cons_zero, List.set_cons_succ]
        refine wpAnyH_take (i := 5) (oi := _) (v := ?vru6) rfl (by kernel_rfl) (by kernel_rfl) (by kernel_rfl) (fun _ _ _ h => h) (Or.inl ⟨by kernel_rfl, ?hyru6⟩) hHeld ?restru6
        case hyru6 => (intro w hSw; (try dsimp only at hSw); go_simp; first | done | with_reducible rfl)
        try simp only [Act.put, List.getElem_toArray, List.getElem_cons_zero, List.getElem_cons_succ, List.setIfInBounds_toArray, List.set_cons_zero, List.set_cons_succ]
        refine wpAnyH_take (i := 6) (oi := _) (v := ?vru7) rfl (by kernel_rfl) (by kernel_rfl) (by kernel_rfl) (fun _ _ _ h => h) (Or.inl ⟨by kernel_rfl, ?hyru7⟩) hHeld ?restru7
        case hyru7 => (intro w hSw; (try dsimp only at hSw); go_simp; first | done | with_reducible rfl)
        try simp only [Act.put, List.getElem_toArray, List.getElem_cons_zero, List.getElem_cons_succ, List.setIfInBounds_toArray, List.set_cons_zero, List.set_cons_succ]
        refine wpAnyH_take (i := 7) (oi := _) (v := ?vru8) rfl (by kernel_rfl) (by kernel_rfl) (by kernel_rfl) (fun _ _ _ h => h) (Or.inl ⟨by kernel_rfl, ?hyru8⟩) hHeld ?restru8
        case hyru8 => (intro w hSw; (try dsimp only at hSw); go_simp; first | done | with_reducible rfl)
        try simp only [Act.put, List.getElem_toArray, List.getElem_cons_zero, List.getElem_cons_succ, List.setIfInBounds_toArray, List.set_cons_zero, List.set_cons_succ]
        refine wpAnyH_take (i := 8) (oi := _) (v := ?vru9) rfl (by kernel_rfl) (by kernel_rfl) (by kernel_rfl) (fun _ _ _ h => h) (Or.inl ⟨by kernel_rfl, ?hyru9⟩) hHeld ?restru9
        case hyru9 => (intro w hSw; (try dsimp only at hSw); go_simp; first | done | with_reducible rfl)
        try simp only [Act.put, List.getElem_toArray, List.getElem_cons_zero, List.getElem_cons_succ, List.setIfInBounds_toArray, List.set_cons_zero, List.set_cons_succ]
        refine wpAnyH_take (i := 9) (oi := _) (v := ?vru10) rfl (by kernel_rfl) (by kernel_rfl) (by kernel_rfl) (fun _ _ _ h => h) (Or.inl ⟨by kernel_rfl, ?hyru10⟩) hHeld ?restru10
        case hyru10 => (intro w hSw; (try dsimp only at hSw); go_simp; first | done | with_reducible rfl)
        try simp only [Act.put, List.getElem_toArray, List.getElem_cons_zero, List.getElem_cons_succ, List.setIfInBounds_toArray, List.set_cons_zero, List.set_cons_succ]
        refine wpAnyH_take (i := 10) (oi := _) (v := ?vru11) rfl (by kernel_rfl) (by kernel_rfl) (by kernel_rfl) (fun _ _ _ h => h) (Or.inl ⟨by kernel_rfl, ?hyru11⟩) hHeld ?restru11
        case hyru11 => (intro w hSw; (try dsimp only at hSw); go_simp; first | done | with_reducible rfl)
        try simp only [Act.put, List.getElem_toArray, List.getElem_cons_zero, List.getElem_cons_succ, List.setIfInBounds_toArray, List.set_cons_zero, List.set_cons_succ]
        refine wpAnyH_take (i := 11) (oi := _) (v := ?vru12) rfl (by kernel_rfl) (by kernel_rfl) (by kernel_rfl) (fun _ _ _ h => h) (Or.inl ⟨by kernel_rfl, ?hyru12⟩) hHeld ?restru12
        case hyru12 => (intro w hSw; (try dsimp only at hSw); go_simp; first | done | with_reducible rfl)
        try simp only [Act.put, List.getElem_toArray, List.getElem_cons_zero, List.getElem_cons_succ, List.setIfInBounds_toArray, List.set_cons_zero, List.set_cons_succ]
        refine wpAnyH_take (i := 12) (oi := _) (v := ?vru13) rfl (by kernel_rfl) (by kernel_rfl) (by kernel_rfl) (fun _ _ _ h => h) (Or.inl ⟨by kernel_rfl, ?hyru13⟩) hHeld ?restru13
        case hyru13 => (intro w hSw; (try dsimp only at hSw); go_simp; first | done | with_reducible rfl)
        try simp only [Act.put, List.getElem_toArray, List.getElem_cons_zero, List.getElem_cons_succ, List.setIfInBounds_toArray, List.set_cons_zero, List.set_cons_succ]
        refine wpAnyH_take (i := 13) (oi := _) (v := ?vru14) rfl (by kernel_rfl) (by kernel_rfl) (by kernel_rfl) (fun _ _ _ h => h) (Or.inl ⟨by kernel_rfl, ?hyru14⟩) hHeld ?restru14
        case hyru14 => (intro w hSw; (try dsimp only at hSw); go_simp; first | done | with_reducible rfl)
        try simp only [Act.put, List.getElem_toArray, List.getElem_cons_zero, List.getElem_cons_succ, List.setIfInBounds_toArray, List.set_cons_zero, List.set_cons_succ]
        refine wpAnyH_take (i := 14) (oi := _) (v := ?vru15) rfl (by kernel_rfl) (by kernel_rfl) (by kernel_rfl) (fun _ _ _ h => h) (Or.inl ⟨by kernel_rfl, ?hyru15⟩) hHeld ?restru15
        case hyru15 => (intro w hSw; (try dsimp only at hSw); go_simp; first | done | with_reducible rfl)
        try simp only [Act.put, List.getElem_toArray, List.getElem_cons_zero, List.getElem_cons_succ, List.setIfInBounds_toArray, List.set_cons_zero, List.set_cons_succ]
        refine wpAnyH_take (i := 15) (oi := _) (v := ?vru16) rfl (by kernel_rfl) (by kernel_rfl) (by kernel_rfl) (fun _ _ _ h => h) (Or.inl ⟨by kernel_rfl, ?hyru16⟩) hHeld ?restru16
        case hyru16 => (intro w hSw; (try dsimp only at hSw); go_simp; first | done | with_reducible rfl)
        try simp only [Act.put, List.getElem_toArray, List.getElem_cons_zero, List.getElem_cons_succ, List.setIfInBounds_toArray, List.set_cons_zero, List.set_cons_succ]
        refine wpAnyH_take (i := 16) (oi := _) (v := ?vru17) rfl (by kernel_rfl) (by kernel_rfl) (by kernel_rfl) (fun _ _ _ h => h) (Or.inl ⟨by kernel_rfl, ?hyru17⟩) hHeld ?restru17
        case hyru17 => (intro w hSw; (try dsimp only at hSw); go_simp; first | done | with_reducible rfl)
        try simp only [Act.put, List.getElem_toArray, List.getElem_cons_zero, List.getElem_cons_succ, List.setIfInBounds_toArray, List.set_cons_zero, List.set_cons_succ]
        refine wpAnyH_take (i := 17) (oi := _) (v := ?vru18) rfl (by kernel_rfl) (by kernel_rfl) (by kernel_rfl) (fun _ _ _ h => h) (Or.inl ⟨by kernel_rfl, ?hyru18⟩) hHeld ?restru18
        case hyru18 => (intro w hSw; (try dsimp only at hSw); go_simp; first | done | with_reducible rfl)
        try simp only [Act.put, List.getElem_toArray, List.getElem_cons_zero, List.getElem_cons_succ, List.setIfInBounds_toArray, List.set_cons_zero, List.set_cons_succ]
        refine wpAnyH_take (i := 18) (oi := _) (v := ?vru19) rfl (by kernel_rfl) (by kernel_rfl) (by kernel_rfl) (fun _ _ _ h => h) (Or.inl ⟨by kernel_rfl, ?hyru19⟩) hHeld ?restru19
        case hyru19 => (intro w hSw; (try dsimp only at hSw); go_simp; first | done | with_reducible rfl)
        try simp only [Act.put, List.getElem_toArray, List.getElem_cons_zero, List.getElem_cons_succ, List.setIfInBounds_toArray, List.set_cons_zero, List.set_cons_succ]
        refine wpAnyH_take (i := 19) (oi := _) (v := ?vru20) rfl (by kernel_rfl) (by kernel_rfl) (by kernel_rfl) (fun _ _ _ h => h) (Or.inl ⟨by kernel_rfl, ?hyru20⟩) hHeld ?restru20
        case hyru20 => (intro w hSw; (try dsimp only at hSw); go_simp; first | done | with_reducible rfl)
        try simp only [Act.put, List.getElem_toArray, List.getElem_cons_zero, List.getElem_cons_succ, List.setIfInBounds_toArray, List.set_cons_zero, List.set_cons_succ]
        refine wpAnyH_take (i := 20) (oi := _) (v := ?vru21) rfl (by kernel_rfl) (by kernel_rfl) (by kernel_rfl) (fun _ _ _ h => h) (Or.inl ⟨by kernel_rfl, ?hyru21⟩) hHeld ?restru21
        case hyru21 => (intro w hSw; (try dsimp only at hSw); go_simp; first | done | with_reducible rfl)
        try simp only [Act.put, List.getElem_toArray, List.getElem_cons_zero, List.getElem_cons_succ, List.setIfInBounds_toArray, List.set_cons_zero, List.set_cons_succ]
        refine wpAnyH_take (i := 21) (oi := _) (v := ?vru22) rfl (by kernel_rfl) (by kernel_rfl) (by kernel_rfl) (fun _ _ _ h => h) (Or.inl ⟨by kernel_rfl, ?hyru22⟩) hHeld ?restru22
        case hyru22 => (intro w hSw; (try dsimp only at hSw); go_simp; first | done | with_reducible rfl)
        try simp only [Act.put, List.getElem_toArray, List.getElem_cons_zero, List.getElem_cons_succ, List.setIfInBounds_toArray, List.set_cons_zero, List.set_cons_succ]
        refine wpAnyH_take (i := 22) (oi := _) (v := ?vru23) rfl (by kernel_rfl) (by kernel_rfl) (by kernel_rfl) (fun _ _ _ h => h) (Or.inl ⟨by kernel_rfl, ?hyru23⟩) hHeld ?restru23
        case hyru23 => (intro w hSw; (try dsimp only at hSw); go_simp; first | done | with_reducible rfl)
        try simp only [Act.put, List.getElem_toArray, List.getElem_cons_zero, List.getElem_cons_succ, List.setIfInBounds_toArray, List.set_cons_zero, List.set_cons_succ]
        refine wpAnyH_take (i := 23) (oi := _) (v := ?vru24) rfl (by kernel_rfl) (by kernel_rfl) (by kernel_rfl) (fun _ _ _ h => h) (Or.inl ⟨by kernel_rfl, ?hyru24⟩) hHeld ?restru24
        case hyru24 => (intro w hSw; (try dsimp only at hSw); go_simp; first | done | with_reducible rfl)
        try simp only [Act.put, List.getElem_toArray, List.getElem_cons_zero, List.getElem_cons_succ, List.setIfInBounds_toArray, List.set_cons_zero, List.set_cons_succ]
        refine wpAnyH_take (i := 24) (oi := _) (v := ?vru25) rfl (by kernel_rfl) (by kernel_rfl) (by kernel_rfl) (fun _ _ _ h => h) (Or.inl ⟨by kernel_rfl, ?hyru25⟩) hHeld ?restru25
        case hyru25 => (intro w hSw; (try dsimp only at hSw); go_simp; first | done | with_reducible rfl)
        try simp only [Act.put, List.getElem_toArray, List.getElem_cons_zero, List.getElem_cons_succ, List.setIfInBounds_toArray, List.set_cons_zero, List.set_cons_succ]
        refine wpAnyH_take (i := 25) (oi := _) (v := ?vru26) rfl (by kernel_rfl) (by kernel_rfl) (by kernel_rfl) (fun _ _ _ h => h) (Or.inl ⟨by kernel_rfl, ?hyru26⟩) hHeld ?restru26
        case hyru26 => (intro w hSw; (try dsimp only at hSw); go_simp; first | done | with_reducible rfl)
        try simp only [Act.put, List.getElem_toArray, List.getElem_cons_zero, List.getElem_cons_succ, List.setIfInBounds_toArray, List.set_cons_zero, List.set_cons_succ]
        refine wpAnyH_ready (rs := [26]) (by kernel_rfl) (by simp) ?_
        refine AllReadyH.cons (o := _) rfl (fun K0 hK0 => ?_) AllReadyH.nil
        go_simp
        refine hK0.out _ _ (K.out _ (thenB B (belowA _ _))) (fun hHeld => ?_)
        clear hK0 K0
        try simp only [Act.put, List.getElem_toArray, List.getElem_cons_zero, List.getElem_cons_succ, List.setIfInBounds_toArray, List.set_cons_zero, List.set_cons_succ]
        have O5 := O.kept (belowA wd (.cells #[.int .i64 d0, .int .i64 (64 * d1), .int .i64 d2, .int .i64 d3] 28))
        have VR5 := VR.kept (belowA wd (.cells #[.int .i64 d0, .int .i64 (64 * d1), .int .i64 d2, .int .i64 d3] 28))
        have B5 := thenB B (belowA wd (.cells #[.int .i64 d0, .int .i64 (64 * d1), .int .i64 d2, .int .i64 d3] 28))
        have HNC := newCells wd 28 (rowSuite ⟨d0, 64 * d1, d2, d3⟩)
        change ∀ j u, (rowSuite ⟨d0, 64 * d1, d2, d3⟩)[j]? = some u → (wd.alloc (.cells #[.int .i64 d0, .int .i64 (64 * d1), .int .i64 d2, .int .i64 d3] 28)).cell? ((⟨wd.heap.size, 0, none⟩ : Addr).add j) = some u at HNC
        have hb4 : w.heap.size + 1 ≤ (wd.alloc (.cells #[.int .i64 d0, .int .i64 (64 * d1), .int .i64 d2, .int .i64 d3] 28)).heap.size := by rw [World.size_alloc]; have := VR.1; omega
        have OLT := Hid.mk O.lt
        refine wpAnyH_ready (rs := [27]) (by kernel_rfl) (by simp) ?_
        refine AllReadyH.cons (o := _) rfl (fun K0 hK0 => ?_) AllReadyH.nil
        try rw [if_pos (by rfl)]
        refine wp_putSuite _ _ _ rfl (w.heap.size + 1) c d os k HK.out rfl O5 (⟨wd.heap.size, 0, none⟩) 1 ⟨d0, 64 * d1, d2, d3⟩ rfl HNC (by omega) hb4 ?_
        intro c6 d6 w6 O6 hg6 _
        have VR6 := Hid.mk (VR5.grownR hg6 (row_ne fun b hb => by have := (OLT.out b hb).1; omega))
        have B6 := belowG B5 hg6 (by omega) (fun b hb => by have := (OLT.out b hb).1; omega)
        refine hK0.out _ _ (K.out _ B6) (fun hHeld => ?_)
        clear hK0 K0
        try simp only [Act.put, List.getElem_toArray, List.getElem_cons_zero, List.getElem_cons_succ, List.setIfInBounds_toArray, List.set_cons_zero, List.set_cons_succ]
        have B6' := Hid.mk B6
        have O6' := Hid.mk O6
        have HJ6 : Hid ((os ++ [(⟨d0, 64 * d1, d2, d3⟩ : Su)]).length = k + 1) := Hid.mk (by rw [List.length_append, HK.out]; rfl)
        clear O6 hg6 B6 O5 VR5 B5 HNC O VR B
        refine wpAnyH_take (i := 28) (oi := _) (v := ?vq28) rfl (by kernel_rfl) (by kernel_rfl) (by kernel_rfl) (fun _ _ _ h => h) (Or.inl ⟨by kernel_rfl, ?hyq28⟩) hHeld ?restq28
        case hyq28 => (intro w hSw; (try dsimp only at hSw); go_simp; first | done | with_reducible rfl)
        try simp only [Act.put, List.getElem_toArray, List.getElem_cons_zero, List.getElem_cons_succ, List.setIfInBounds_toArray, List.set_cons_zero, List.set_cons_succ]
        refine wpAnyH_done (by kernel_rfl) ?_ _
        go_wp2
        go_roundw
        case rel => exact ⟨k + 1, p + 4, d6, c6, _, by go_num, by have := HP.out; omega, rfl, HJ6.out, by have := HP.out; omega, by omega, HD.out, O6'.out, VR6.out, B6'.out⟩
        case measure => simp [intOf]; omega
      · have h10i : ¬ (k : Int) ≤ 10 := by omega
        have h10d : decide ((k : Int) ≤ 10) = false := decide_eq_false h10i
        have OC := O.caps
        rw [hk] at OC
        have CF := Hid.mk (fun w h => specSuitesFault_ok c k d os w h hk OC.1 OC.2)
        have OLT := Hid.mk O.lt
        have hk1 := Hid.mk hk
        have hF : ssF os = 2 := ssF_many (by omega)
        simp only [hF] at CF
        have E := Hid.mk (ds_long (ds := ds) (by omega))
        clear hde hk hF OC hb
        obtain ⟨s_VR, f_VR, z_VR⟩ := VR.open
        go_wp2_with fail
        refine (CF.out _ O.rd).mono ?_
        rintro e w41 ⟨rfl, b41⟩
        clear s_VR f_VR z_VR
        have S41 := b41.size
        replace VR := VR.kept b41
        replace O := O.kept b41
        replace B := thenB B b41
        clear b41
        obtain ⟨s_VR, f_VR, z_VR⟩ := VR.open
        have Bo := B
        clear s_VR f_VR z_VR
        have VF := Hid.mk (VR.filled [.int .i64 5, .slice none 0 0] rfl)
        have BR := belowCells B (show w.heap.size ≤ w.heap.size by (first | omega | (simp; done) | (simp; omega))) 0 [.int .i64 5, .slice none 0 0]
        have HT := Hid.mk VR.there
        replace BR := Hid.mk BR
        clear O
        obtain ⟨s_VR, f_VR, z_VR⟩ := VR.open
        go_wp2_with (refine wpList_store_mid rfl 33 _ _ rfl (w.heap.size) 0 #[.int .i64 5, .slice none 0 0] rfl rfl HT.out (by kernel_rfl) (by kernel_rfl) ?_)
        refine bodyPost_ret (v := .agg #[.int .i64 5, .slice none 0 0]) (results_row Try.results41 _ _ (w.heap.size) [.int .i64 5, .slice none 0 0] _ rfl VF.out Try.underlying33 rfl (by kernel_rfl)) rfl ⟨none, 0, by rw [E.out.1, E.out.2]; rfl, by rw [E.out.2]; exact OwnSuite.none, BR.out⟩
    · have hl3 : ¬ (p : Int) + 3 < (n : Int) := by omega
      have hl3d : decide ((p : Int) + 3 < (n : Int)) = false := decide_eq_false hl3
      have OC := O.caps
      rw [hk] at OC
      have CF := Hid.mk (fun w h => specSuitesFault_ok c k d os w h hk OC.1 OC.2)
      have OLT := Hid.mk O.lt
      have hk1 := Hid.mk hk
      have hpe : p = n := by omega
      rw [hpe, List.drop_of_length_le (by omega)] at hde
      rw [show deSu [] = ([] : List Su) from rfl, List.append_nil] at hde
      by_cases h0 : ssF os = 0
      · have hle := (ssF_ok h0).2.1
        have E := Hid.mk (ds_good (ds := ds) (by rw [hn]; omega) (by rw [hn]; omega) (by rw [← hde]; exact h0))
        simp only [h0] at CF
        have HD := Hid.mk hde
        clear hde hk h0 OC hb hle hpe hp
        obtain ⟨s_VR, f_VR, z_VR⟩ := VR.open
        go_wp2_with fail
        refine (CF.out _ O.rd).mono ?_
        rintro e w61 ⟨rfl, b61⟩
        clear s_VR f_VR z_VR
        have S61 := b61.size
        replace VR := VR.kept b61
        replace O := O.kept b61
        replace B := thenB B b61
        clear b61
        obtain ⟨s_VR, f_VR, z_VR⟩ := VR.open
        have Bo := B
        clear s_VR f_VR z_VR
        have VF := Hid.mk (VR.filled [.int .i64 0, .slice c k d] rfl)
        have BR := belowCells B (show w.heap.size ≤ w.heap.size by (first | omega | (simp; done) | (simp; omega))) 0 [.int .i64 0, .slice c k d]
        have HT := Hid.mk VR.there
        replace BR := Hid.mk BR
        have OF := Hid.mk ((O.apart (B := w.heap.size) (fun b hb => by have := (OLT.out b hb).1; omega) 0 [.int .i64 0, .slice c k d]).mono (Nat.le_succ w.heap.size))
        clear O
        obtain ⟨s_VR, f_VR, z_VR⟩ := VR.open
        go_wp2_with (refine wpList_store_mid rfl 33 _ _ rfl (w.heap.size) 0 #[.int .i64 0, .slice c k d] rfl rfl HT.out (by kernel_rfl) (by kernel_rfl) ?_)
        refine bodyPost_ret (v := .agg #[.int .i64 0, .slice c k d]) (results_row Try.results41 _ _ (w.heap.size) [.int .i64 0, .slice c k d] _ rfl VF.out Try.underlying33 rfl (by kernel_rfl)) rfl ⟨c, d, by rw [E.out.1, E.out.2, ← HD.out, hk1.out], by rw [E.out.2, ← HD.out]; exact OF.out, BR.out⟩
      · have E := Hid.mk (ds_bad (ds := ds) (by rw [← hde]; exact h0))
        have hne : (ssF os != 0) = true := by simp [h0]
        generalize ssF os = kc at *
        clear hde hk h0 OC hb hpe hp
        obtain ⟨s_VR, f_VR, z_VR⟩ := VR.open
        go_wp2_with fail
        refine (CF.out _ O.rd).mono ?_
        rintro e w81 ⟨rfl, b81⟩
        clear s_VR f_VR z_VR
        have S81 := b81.size
        replace VR := VR.kept b81
        replace O := O.kept b81
        replace B := thenB B b81
        clear b81
        obtain ⟨s_VR, f_VR, z_VR⟩ := VR.open
        have Bo := B
        clear s_VR f_VR z_VR
        have VF := Hid.mk (VR.filled [.int .i64 5, .slice none 0 0] rfl)
        have BR := belowCells B (show w.heap.size ≤ w.heap.size by (first | omega | (simp; done) | (simp; omega))) 0 [.int .i64 5, .slice none 0 0]
        have HT := Hid.mk VR.there
        replace BR := Hid.mk BR
        clear O
        obtain ⟨s_VR, f_VR, z_VR⟩ := VR.open
        go_wp2_with (refine wpList_store_mid rfl 33 _ _ rfl (w.heap.size) 0 #[.int .i64 5, .slice none 0 0] rfl rfl HT.out (by kernel_rfl) (by kernel_rfl) ?_)
        refine bodyPost_ret (v := .agg #[.int .i64 5, .slice none 0 0]) (results_row Try.results41 _ _ (w.heap.size) [.int .i64 5, .slice none 0 0] _ rfl VF.out Try.underlying33 rfl (by kernel_rfl)) rfl ⟨none, 0, by rw [E.out.1, E.out.2]; rfl, by rw [E.out.2]; exact OwnSuite.none, BR.out⟩

end Go.Proofs.Ythaaompkcomfcaa
