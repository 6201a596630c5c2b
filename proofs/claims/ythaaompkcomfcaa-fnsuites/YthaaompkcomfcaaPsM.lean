/- Suites read from bytes: the program. -/
import Derived.Test.YthaaompkcomfcaaPsI
import Derived.Test.YthaaompkcomfcaaHeldR
namespace Go.Proofs.Ythaaompkcomfcaa
open Go.RowKit

/-- How long a slice is. -/
def sliceLen (v : Value) : Nat := match v with | .slice _ n _ => n | _ => 0

/-- The first suite of bytes. -/
def headSu (ds : List Int) : Su := ⟨ds.getD 0 0, 64 * ds.getD 1 0, ds.getD 2 0, ds.getD 3 0⟩

theorem Rd.drop4 {w : World} {b o : Nat} {ds : List Int} (h : Rd .u8 w (some ⟨b, o, none⟩) ds) : Rd .u8 w (some ⟨b, o + 4, none⟩) (ds.drop 4) := by
  rcases h with h | ⟨b', o', h1, h2⟩
  · left; rw [h]; rfl
  · simp only [Option.some.injEq, Addr.mk.injEq, and_true] at h1
    obtain ⟨rfl, rfl⟩ := h1
    right
    refine ⟨b, o + 4, rfl, fun i hi => ?_⟩
    rw [List.length_drop] at hi
    have h3 := h2 (4 + i) (by omega)
    rw [← Nat.add_assoc] at h3
    rw [h3]
    simp [List.getD, List.getElem?_drop]

set_option maxRecDepth 20000 in
set_option maxHeartbeats 4000000 in
theorem readSuite_ok (b o n ca : Nat) (ds : List Int) (w : World) (ha : Rd .u8 w (some ⟨b, o, none⟩) ds) (hn : ds.length = n) (hx : n ≤ maxLen) (h4 : 4 ≤ n) (hb : Bytes ds) :
    Calls Try.prog 54 #[.slice (some ⟨b, o, none⟩) n ca] w fun e w' => e = .returned (.agg #[.int .i64 (headSu ds).c, .int .i64 (headSu ds).b, .int .i64 (headSu ds).m, .int .i64 (headSu ds).g]) ∧ Below w.heap.size w w' := by
  unfold maxLen at hx
  have HA := Hid.mk ha
  obtain ⟨d0, e0⟩ : ∃ d, ds.getD 0 0 = d := ⟨_, rfl⟩
  obtain ⟨d1, e1⟩ : ∃ d, ds.getD 1 0 = d := ⟨_, rfl⟩
  obtain ⟨d2, e2⟩ : ∃ d, ds.getD 2 0 = d := ⟨_, rfl⟩
  obtain ⟨d3, e3⟩ : ∃ d, ds.getD 3 0 = d := ⟨_, rfl⟩
  have hh : headSu ds = ⟨d0, 64 * d1, d2, d3⟩ := by unfold headSu; rw [e0, e1, e2, e3]
  rw [hh]
  have k0 := hb.at 0
  have k1 := hb.at 1
  have k2 := hb.at 2
  have k3 := hb.at 3
  rw [e0] at k0
  rw [e1] at k1
  rw [e2] at k2
  rw [e3] at k3
  rcases ha with ha | ⟨b', o', hab, hca⟩
  · rw [ha] at hn; simp at hn; omega
  simp only [Option.some.injEq, Addr.mk.injEq, and_true] at hab
  obtain ⟨rfl, rfl⟩ := hab
  have p0 := hca 0 (by omega)
  have p1 := hca 1 (by omega)
  have p2 := hca 2 (by omega)
  have p3 := hca 3 (by omega)
  rw [e0] at p0
  rw [e1] at p1
  rw [e2] at p2
  rw [e3] at p3
  rw [Nat.add_zero] at p0
  have i0 : (0 : Int) < (n : Int) := by omega
  have j0 : 0 < n := by omega
  have i1 : (1 : Int) < (n : Int) := by omega
  have j1 : 1 < n := by omega
  have i2 : (2 : Int) < (n : Int) := by omega
  have j2 : 2 < n := by omega
  have i3 : (3 : Int) < (n : Int) := by omega
  have j3 : 3 < n := by omega
  have v0 : IntKind.i64.wrap d0 = d0 := by rw [IntKind.wrap_i64]; omega
  have v1 : IntKind.i64.wrap d1 = d1 := by rw [IntKind.wrap_i64]; omega
  have v2 : IntKind.i64.wrap d2 = d2 := by rw [IntKind.wrap_i64]; omega
  have v3 : IntKind.i64.wrap d3 = d3 := by rw [IntKind.wrap_i64]; omega
  have u1 : IntKind.i64.wrap (64 * d1) = 64 * d1 := by rw [IntKind.wrap_i64]; omega
  clear hca e0 e1 e2 e3 hh hb HA
  go_enter Try.func54, Try.ntmps54
  have B := Below.refl w.heap.size w
  replace B := thenB B (belowA w (.cells #[.int .i64 0, .int .i64 0, .int .i64 0, .int .i64 0] 28))
  have VR := V.new w [.int .i64 0, .int .i64 0, .int .i64 0, .int .i64 0] 28
  obtain ⟨s_VR, f_VR, z_VR⟩ := VR.open
  have Bo := B
  have K : ∀ w' : World, Below w.heap.size w w' → (w'.cell? ⟨b, o, none⟩ = some (.int .u8 d0) ∧ w'.cell? ⟨b, o + 1, none⟩ = some (.int .u8 d1) ∧ w'.cell? ⟨b, o + 2, none⟩ = some (.int .u8 d2) ∧ w'.cell? ⟨b, o + 3, none⟩ = some (.int .u8 d3)) := fun w' h => ⟨(h.cell (p := ⟨b, o, none⟩) (World.block_lt_of_cell? (a := ⟨b, o, none⟩) w p0)).trans p0, (h.cell (p := ⟨b, o + 1, none⟩) (World.block_lt_of_cell? (a := ⟨b, o + 1, none⟩) w p1)).trans p1, (h.cell (p := ⟨b, o + 2, none⟩) (World.block_lt_of_cell? (a := ⟨b, o + 2, none⟩) w p2)).trans p2, (h.cell (p := ⟨b, o + 3, none⟩) (World.block_lt_of_cell? (a := ⟨b, o + 3, none⟩) w p3)).trans p3⟩
  have K := Hid.mk K
  clear p0 p1 p2 p3
  clear s_VR f_VR z_VR
  go_upto_region 1 with fail
  refine wp_region_held_drew (S := (fun w' => w'.cell? ⟨b, o, none⟩ = some (.int .u8 d0) ∧ w'.cell? ⟨b, o + 1, none⟩ = some (.int .u8 d1) ∧ w'.cell? ⟨b, o + 2, none⟩ = some (.int .u8 d2) ∧ w'.cell? ⟨b, o + 3, none⟩ = some (.int .u8 d3))) (by kernel_rfl) (K.out _ (thenB B (Below.refl _ _).drew)) (fun hHeld => ?_)
  refine wpAnyH_take (i := 0) (oi := _) (v := ?vru1) rfl (by kernel_rfl) (by kernel_rfl) (by kernel_rfl) (fun _ _ _ h => h) (Or.inl ⟨by kernel_rfl, ?hyru1⟩) hHeld ?restru1
  case hyru1 => (intro w hSw; (try dsimp only at hSw); go_simp; first | done | with_reducible rfl)
  try simp only [Act.put, List.getElem_toArray, List.getElem_cons_zero, List.setIfInBounds_toArray, List.set_cons_zero, List.set_cons_succ]
  refine wpAnyH_take (i := 1) (oi := _) (v := ?vru2) rfl (by kernel_rfl) (by kernel_rfl) (by kernel_rfl) (fun _ _ _ h => h) (Or.inl ⟨by kernel_rfl, ?hyru2⟩) hHeld ?restru2
  case hyru2 => (intro w hSw; (try dsimp only at hSw); go_simp; first | done | with_reducible rfl)
  try simp only [Act.put, List.getElem_toArray, List.getElem_cons_zero, List.getElem_cons_succ, List.setIfInBounds_toArray, List.set_cons_zero, List.set_cons_succ]
  refine wpAnyH_take (i := 2) (oi := _) (v := ?vru3) rfl (by kernel_rfl) (by kernel_rfl) (by kernel_rfl) (fun _ _ _ h => h) (Or.inl ⟨by kernel_rfl, ?hyru3⟩) hHeld ?restru3
  case hyru3 => (intro w hSw; (try dsimp only at hSw); go_simp; first | done | with_reducible rfl)
  try simp only [Act.put, List.getElem_toArray, List.getElem_cons_zero, List.getElem_cons_succ, List.setIfInBounds_toArray, List.set_cons_zero, List.set_cons_succ]
  refine wpAnyH_take (i := 3) (oi := _) (v := ?vru4) rfl (by kernel_rfl) (by kernel_rfl) (by kernel_rfl) (fun _ _ _ h => h) (Or.inl ⟨by kernel_rfl, ?hyru4⟩) hHeld ?restru4
  case hyru4 => (intro w hSw; (try dsimp only at hSw); go_simp; first | done | with_reducible rfl)
  try simp only [Act.put, List.getElem_toArray, List.getElem_cons_zero, List.getElem_cons_succ, List.setIfInBounds_toArray, List.set_cons_zero, List.set_cons_succ]
  refine wpAnyH_take (i := 4) (oi := _) (v := ?vru5) rfl (by kernel_rfl) (by kernel_rfl) (by kernel_rfl) (fun _ _ _ h => h) (Or.inl ⟨by kernel_rfl, ?hyru5⟩) hHeld ?restru5
  case hyru5 => (intro w hSw; (try dsimp only at hSw); go_simp; first | done | with_reducible rfl)
  try simp only [Act.put, List.getElem_toArray, List.getElem_cons_zero, List.getElem_cons_succ, List.setIfInBounds_toArray, List.set_cons_zero, List.set_cons_succ]
  refine wpAnyH_take (i := 5) (oi := _) (v := ?vru6) rfl (by kernel_rfl) (by kernel_rfl) (by kernel_rfl) (fun _ _ _ h => h) (Or.inl ⟨by kernel_rfl, ?hyru6⟩) hHeld ?restru6
  case hyru6 => (intro w hSw; (try dsimp only at hSw); go_simp; first | done | with_reducible rfl)
  try simp only [Act.put, List.getElem_toArray, List.getElem_cons_zero, List.getElem_cons_succ, List.setIfInBounds_toArray, List.set_cons_zero, List.set_cons_succ]
  refine wpAnyH_take (i := 6) (oi := _) (v := ?vru7) rfl (by kernel_rfl) (by kernel_rfl) (by kernel_rfl) (fun _ _ _ h => h) (Or.inl ⟨by kernel_rfl, ?hyru7⟩) hHeld ?restru7
  case hyru7 => (intro w hSw; (try dsimp only at hSw); go_simp; first | done | with_reducible rfl)
  try simp only [Act.put, List.getElem_toArray, List.getElem_cons_zero, List.getElem_cons_succ, List.setIfInBounds_toArray, List.set_cons_zero, List.set_cons_succ]
  refine wpAnyH_take (i := 7) (oi := _) (v := ?vru8) rfl (by kernel_rfl) (by kernel_rfl) (by kernel_rfl) (fun _ _ _ h => h) (Or.inl ⟨by kernel_rfl, ?hyru8⟩) hHeld ?restru8
  case hyru8 => (intro w hSw; (try dsimp only at hSw); go_simp; first | done | with_reducible rfl)
  try simp only [Act.put, List.getElem_toArray, List.getElem_cons_zero, List.getElem_cons_succ, List.setIfInBounds_toArray, List.set_cons_zero, List.set_cons_succ]
  refine wpAnyH_take (i := 8) (oi := _) (v := ?vru9) rfl (by kernel_rfl) (by kernel_rfl) (by kernel_rfl) (fun _ _ _ h => h) (Or.inl ⟨by kernel_rfl, ?hyru9⟩) hHeld ?restru9
  case hyru9 => (intro w hSw; (try dsimp only at hSw); go_simp; first | done | with_reducible rfl)
  try simp only [Act.put, List.getElem_toArray, List.getElem_cons_zero, List.getElem_cons_succ, List.setIfInBounds_toArray, List.set_cons_zero, List.set_cons_succ]
  refine wpAnyH_take (i := 9) (oi := _) (v := ?vru10) rfl (by kernel_rfl) (by kernel_rfl) (by kernel_rfl) (fun _ _ _ h => h) (Or.inl ⟨by kernel_rfl, ?hyru10⟩) hHeld ?restru10
  case hyru10 => (intro w hSw; (try dsimp only at hSw); go_simp; first | done | with_reducible rfl)
  try simp only [Act.put, List.getElem_toArray, List.getElem_cons_zero, List.getElem_cons_succ, List.setIfInBounds_toArray, List.set_cons_zero, List.set_cons_succ]
  refine wpAnyH_take (i := 10) (oi := _) (v := ?vru11) rfl (by kernel_rfl) (by kernel_rfl) (by kernel_rfl) (fun _ _ _ h => h) (Or.inl ⟨by kernel_rfl, ?hyru11⟩) hHeld ?restru11
  case hyru11 => (intro w hSw; (try dsimp only at hSw); go_simp; first | done | with_reducible rfl)
  try simp only [Act.put, List.getElem_toArray, List.getElem_cons_zero, List.getElem_cons_succ, List.setIfInBounds_toArray, List.set_cons_zero, List.set_cons_succ]
  refine wpAnyH_take (i := 11) (oi := _) (v := ?vru12) rfl (by kernel_rfl) (by kernel_rfl) (by kernel_rfl) (fun _ _ _ h => h) (Or.inl ⟨by kernel_rfl, ?hyru12⟩) hHeld ?restru12
  case hyru12 => (intro w hSw; (try dsimp only at hSw); go_simp; first | done | with_reducible rfl)
  try simp only [Act.put, List.getElem_toArray, List.getElem_cons_zero, List.getElem_cons_succ, List.setIfInBounds_toArray, List.set_cons_zero, List.set_cons_succ]
  refine wpAnyH_take (i := 12) (oi := _) (v := ?vru13) rfl (by kernel_rfl) (by kernel_rfl) (by kernel_rfl) (fun _ _ _ h => h) (Or.inl ⟨by kernel_rfl, ?hyru13⟩) hHeld ?restru13
  case hyru13 => (intro w hSw; (try dsimp only at hSw); go_simp; first | done | with_reducible rfl)
  try simp only [Act.put, List.getElem_toArray, List.getElem_cons_zero, List.getElem_cons_succ, List.setIfInBounds_toArray, List.set_cons_zero, List.set_cons_succ]
  refine wpAnyH_take (i := 13) (oi := _) (v := ?vru14) rfl (by kernel_rfl) (by kernel_rfl) (by kernel_rfl) (fun _ _ _ h => h) (Or.inl ⟨by kernel_rfl, ?hyru14⟩) hHeld ?restru14
  case hyru14 => (intro w hSw; (try dsimp only at hSw); go_simp; first | done | with_reducible rfl)
  try simp only [Act.put, List.getElem_toArray, List.getElem_cons_zero, List.getElem_cons_succ, List.setIfInBounds_toArray, List.set_cons_zero, List.set_cons_succ]
  refine wpAnyH_take (i := 14) (oi := _) (v := ?vru15) rfl (by kernel_rfl) (by kernel_rfl) (by kernel_rfl) (fun _ _ _ h => h) (Or.inl ⟨by kernel_rfl, ?hyru15⟩) hHeld ?restru15
  case hyru15 => (intro w hSw; (try dsimp only at hSw); go_simp; first | done | with_reducible rfl)
  try simp only [Act.put, List.getElem_toArray, List.getElem_cons_zero, List.getElem_cons_succ, List.setIfInBounds_toArray, List.set_cons_zero, List.set_cons_succ]
  refine wpAnyH_take (i := 15) (oi := _) (v := ?vru16) rfl (by kernel_rfl) (by kernel_rfl) (by kernel_rfl) (fun _ _ _ h => h) (Or.inl ⟨by kernel_rfl, ?hyru16⟩) hHeld ?restru16
  case hyru16 => (intro w hSw; (try dsimp only at hSw); go_simp; first | done | with_reducible rfl)
  try simp only [Act.put, List.getElem_toArray, List.getElem_cons_zero, List.getElem_cons_succ, List.setIfInBounds_toArray, List.set_cons_zero, List.set_cons_succ]
  refine wpAnyH_take (i := 16) (oi := _) (v := ?vru17) rfl (by kernel_rfl) (by kernel_rfl) (by kernel_rfl) (fun _ _ _ h => h) (Or.inl ⟨by kernel_rfl, ?hyru17⟩) hHeld ?restru17
  case hyru17 => (intro w hSw; (try dsimp only at hSw); go_simp; first | done | with_reducible rfl)
  try simp only [Act.put, List.getElem_toArray, List.getElem_cons_zero, List.getElem_cons_succ, List.setIfInBounds_toArray, List.set_cons_zero, List.set_cons_succ]
  refine wpAnyH_take (i := 17) (oi := _) (v := ?vru18) rfl (by kernel_rfl) (by kernel_rfl) (by kernel_rfl) (fun _ _ _ h => h) (Or.inl ⟨by kernel_rfl, ?hyru18⟩) hHeld ?restru18
  case hyru18 => (intro w hSw; (try dsimp only at hSw); go_simp; first | done | with_reducible rfl)
  try simp only [Act.put, List.getElem_toArray, List.getElem_cons_zero, List.getElem_cons_succ, List.setIfInBounds_toArray, List.set_cons_zero, List.set_cons_succ]
  have acc := ((Below.refl _ _).drew : Below (w.alloc (.cells #[.int .i64 0, .int .i64 0, .int .i64 0, .int .i64 0] 28)).heap.size (w.alloc (.cells #[.int .i64 0, .int .i64 0, .int .i64 0, .int .i64 0] 28)) ((w.alloc (.cells #[.int .i64 0, .int .i64 0, .int .i64 0, .int .i64 0] 28))).drew)
  refine wpAnyH_ready (rs := [18]) (by kernel_rfl) (by simp) ?_
  refine AllReadyH.cons (o := _) rfl (fun K0 hK0 => ?_) AllReadyH.nil
  have VR1 := VR.kept acc
  have VF := Hid.mk (VR1.filled [.int .i64 d0, .int .i64 (64 * d1), .int .i64 d2, .int .i64 d3] rfl)
  have hT := VR1.there
  have bF := belowCells (thenB B acc) (Nat.le_refl w.heap.size) 0 [.int .i64 d0, .int .i64 (64 * d1), .int .i64 d2, .int .i64 d3]
  have BF := Hid.mk bF
  refine wp_store_mid _ _ _ rfl (w.heap.size) 0 #[.int .i64 d0, .int .i64 (64 * d1), .int .i64 d2, .int .i64 d3] rfl rfl hT (by kernel_rfl) (by kernel_rfl) ?_
  refine hK0.out _ _ (K.out _ bF) (fun hHeld => ?_)
  clear hK0 K0
  refine wpAnyH_done (by kernel_rfl) ?_ _
  go_wp2
  refine bodyPost_ret (v := .agg #[.int .i64 d0, .int .i64 (64 * d1), .int .i64 d2, .int .i64 d3]) (results_row Try.results54 _ _ (w.heap.size) [.int .i64 d0, .int .i64 (64 * d1), .int .i64 d2, .int .i64 d3] _ rfl VF.out Try.underlying28 rfl (by kernel_rfl)) rfl ⟨rfl, BF.out⟩

end Go.Proofs.Ythaaompkcomfcaa
