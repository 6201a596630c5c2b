/- The fault of a list of suites: both sides. -/
import Derived.Test.YthaaompkcomfcaaPsD
import Derived.Deep.RegionHeld3
namespace Go.Proofs.Ythaaompkcomfcaa
open Go.RowKit

theorem RdSuite.take {w : World} {a : Option Addr} {xs : List Su} (h : RdSuite w a xs) (k : Nat) : RdSuite w a (xs.take k) := by
  rcases h with h | ⟨b, off, rfl, hc⟩
  · left; rw [h]; simp
  · right
    refine ⟨b, off, rfl, fun i j hi hj => ?_⟩
    rw [List.length_take] at hi
    rw [hc i j (by omega) hj]
    congr 2
    simp only [List.getD, List.getElem?_take]
    rw [if_pos (by omega)]

set_option maxHeartbeats 2000000 in
theorem implSuitesFault_ok (a : Option Addr) (n ca : Nat) (xs : List Su) (w : World) (ha : RdSuite w a xs) (hn : xs.length = n) (hc : n ≤ ca) (hx : ca ≤ maxLen) :
    Calls Try.prog 27 #[.slice a n ca] w fun e w' => e = .returned (.int .i64 (ssF xs)) ∧ Below w.heap.size w w' := by
  have hx0 := Hid.mk hx
  unfold maxLen at hx
  by_cases h1 : (n : Int) < 1
  · have hr := Hid.mk (ssF_many (xs := xs) (by omega))
    go_enter Try.func27, Try.ntmps27
    go_wp2
    go_ret
    rw [hr.out]
    exact ⟨rfl, Below.refl _ _⟩
  have d1 : decide ((n : Int) < 1) = false := decide_eq_false h1
  by_cases h2 : (10 : Int) < (n : Int)
  · have hr := Hid.mk (ssF_many (xs := xs) (by omega))
    go_enter Try.func27, Try.ntmps27
    go_wp2
    go_ret
    rw [hr.out]
    exact ⟨rfl, Below.refl _ _⟩
  have d2 : decide ((10 : Int) < (n : Int)) = false := decide_eq_false h2
  have hr := ssF_few (xs := xs) (by omega) (by omega)
  rw [hr]
  replace hr := Hid.mk hr
  go_enter Try.func27, Try.ntmps27
  go_wp2
  go_loopw [16] (fun i wr => ∃ k : Nat, k ≤ n ∧ i = .int .i64 k ∧ ssL (xs.take k) (xs.drop k) = ssL [] xs ∧ Below w.heap.size w wr) (fun i _ => n - (intOf i).toNat)
  case atStart => exact ⟨0, Nat.zero_le _, rfl, rfl, Below.refl _ _⟩
  case round =>
    obtain ⟨k, hk, rfl, hdr, B⟩ := hrel
    by_cases hlt : k < n
    · obtain ⟨z, hz⟩ : ∃ z, xs.getD k zSuite = z := ⟨_, rfl⟩
      have hk1 : (k : Int) < (n : Int) := by omega
      have hk2 : (k : Int) ≤ (ca : Int) := by omega
      have hs := ssL_at xs k (by omega) hz
      rw [hdr] at hs
      replace ha := ha.kept B
      have haw := Hid.mk ha
      rcases ha with ha | ⟨b1, o1, rfl, hca⟩
      · simp [ha] at hn; omega
      obtain ⟨p0, p1, p2, p3⟩ := RdSuite.cells hca k (by omega) z hz
      have hlk : (xs.take k).length = k := by rw [List.length_take]; omega
      have hmk : k ≤ maxLen := by unfold maxLen; omega
      replace hlk := Hid.mk hlk
      clear hca hz hdr
      have CF := Hid.mk (fun w => implSuiteFault_ok z w)
      by_cases ho : okSu z = true
      · rw [if_pos ho] at hs
        simp only [sfC_yes ho] at CF
        replace ho := Hid.mk ho
        have VB := V.new wr [.int .i64 z.c, .int .i64 z.b, .int .i64 z.m, .int .i64 z.g] 28
        have BB := belowA wr (.cells #[.int .i64 z.c, .int .i64 z.b, .int .i64 z.m, .int .i64 z.g] 28)
        go_wp2_with fail
        refine (CF.out _).mono ?_
        rintro e w1 ⟨rfl, b1⟩
        replace VB := VB.kept b1
        have B1 := thenB BB b1
        clear BB b1
        obtain ⟨s_VB, f_VB, z_VB⟩ := VB.open
        have q0 := f_VB 0 (by simp)
        have q1 := f_VB 1 (by simp)
        have q2 := f_VB 2 (by simp)
        have q3 := f_VB 3 (by simp)
        simp only [List.getElem?_cons_zero, List.getElem?_cons_succ] at q0 q1 q2 q3
        have K : ∀ w' : World, Below w1.heap.size w1 w' → (w'.cell? ⟨wr.heap.size, 0, none⟩ = some (.int .i64 z.c) ∧ w'.cell? ⟨wr.heap.size, 1, none⟩ = some (.int .i64 z.b) ∧ w'.cell? ⟨wr.heap.size, 2, none⟩ = some (.int .i64 z.m) ∧ w'.cell? ⟨wr.heap.size, 3, none⟩ = some (.int .i64 z.g)) := fun w' h => ⟨(h.cell (p := ⟨wr.heap.size, 0, none⟩) (World.block_lt_of_cell? (a := ⟨wr.heap.size, 0, none⟩) w1 q0)).trans q0, (h.cell (p := ⟨wr.heap.size, 1, none⟩) (World.block_lt_of_cell? (a := ⟨wr.heap.size, 1, none⟩) w1 q1)).trans q1, (h.cell (p := ⟨wr.heap.size, 2, none⟩) (World.block_lt_of_cell? (a := ⟨wr.heap.size, 2, none⟩) w1 q2)).trans q2, (h.cell (p := ⟨wr.heap.size, 3, none⟩) (World.block_lt_of_cell? (a := ⟨wr.heap.size, 3, none⟩) w1 q3)).trans q3⟩
        have K := Hid.mk K
        have RK : Hid (∀ w', Below w1.heap.size w1 w' → RdSuite w' (some ⟨b1, o1, none⟩) (xs.take k)) := Hid.mk fun w' h => ((haw.out.kept B1).kept h).take k
        replace B1 := thenB B B1
        replace B := Hid.mk B1
        clear B1
        clear haw hlt
        cases hg : hasSu (xs.take k) z
        · rw [hg, if_neg (by simp)] at hs
          have CC := Hid.mk (fun w' h => suContains_ok (some ⟨b1, o1, none⟩) k ca (xs.take k) z w' (RK.out w' h) hlk.out hmk)
          simp only [hg] at CC
          clear hg RK
          have HS := Hid.mk hs
          clear hs
          go_wp2
          refine wp_region_held_drew (S := (fun w' => w'.cell? ⟨wr.heap.size, 0, none⟩ = some (.int .i64 z.c) ∧ w'.cell? ⟨wr.heap.size, 1, none⟩ = some (.int .i64 z.b) ∧ w'.cell? ⟨wr.heap.size, 2, none⟩ = some (.int .i64 z.m) ∧ w'.cell? ⟨wr.heap.size, 3, none⟩ = some (.int .i64 z.g))) (by kernel_rfl) (K.out _ (Below.refl _ _).drew) (fun hHeld => ?_)
          refine wpAnyH_take (i := 0) (oi := _) (v := ?veu1) rfl (by kernel_rfl) (by kernel_rfl) (by kernel_rfl) (fun _ _ _ h => h) (Or.inl ⟨by kernel_rfl, ?hyeu1⟩) hHeld ?resteu1
          case hyeu1 => (intro w hSw; (try dsimp only at hSw); go_simp; first | done | with_reducible rfl)
          try simp only [Act.put, List.getElem_toArray, List.getElem_cons_zero, List.setIfInBounds_toArray, List.set_cons_zero, List.set_cons_succ]
          refine wpAnyH_take (i := 1) (oi := _) (v := ?veu2) rfl (by kernel_rfl) (by kernel_rfl) (by kernel_rfl) (fun _ _ _ h => h) (Or.inl ⟨by kernel_rfl, ?hyeu2⟩) hHeld ?resteu2
          case hyeu2 => (intro w hSw; (try dsimp only at hSw); go_simp; first | done | with_reducible rfl)
          try simp only [Act.put, List.getElem_toArray, List.getElem_cons_zero, List.getElem_cons_succ, List.setIfInBounds_toArray, List.set_cons_zero, List.set_cons_succ]
          refine wpAnyH_take (i := 2) (oi := _) (v := ?veu3) rfl (by kernel_rfl) (by kernel_rfl) (by kernel_rfl) (fun _ _ _ h => h) (Or.inl ⟨by kernel_rfl, ?hyeu3⟩) hHeld ?resteu3
          case hyeu3 => (intro w hSw; (try dsimp only at hSw); go_simp; first | done | with_reducible rfl)
          try simp only [Act.put, List.getElem_toArray, List.getElem_cons_zero, List.getElem_cons_succ, List.setIfInBounds_toArray, List.set_cons_zero, List.set_cons_succ]
          refine wpAnyH_take (i := 3) (oi := _) (v := ?veu4) rfl (by kernel_rfl) (by kernel_rfl) (by kernel_rfl) (fun _ _ _ h => h) (Or.inl ⟨by kernel_rfl, ?hyeu4⟩) hHeld ?resteu4
          case hyeu4 => (intro w hSw; (try dsimp only at hSw); go_simp; first | done | with_reducible rfl)
          try simp only [Act.put, List.getElem_toArray, List.getElem_cons_zero, List.getElem_cons_succ, List.setIfInBounds_toArray, List.set_cons_zero, List.set_cons_succ]
          refine wpAnyH_ready (rs := [4]) (by kernel_rfl) (by simp) ?_
          refine AllReadyH.cons (o := _) rfl (fun K0 hK0 => ?_) AllReadyH.nil
          go_simp
          go_at_call 47
          refine (CC.out _ (Below.refl _ _).drew).mono ?_
          rintro e wev5 ⟨rfl, bev5⟩
          refine hK0.out _ _ (K.out _ (thenB (Below.refl _ _).drew bev5)) (fun hHeld => ?_)
          clear hK0 K0
          try simp only [Act.put, List.getElem_toArray, List.getElem_cons_zero, List.getElem_cons_succ, List.setIfInBounds_toArray, List.set_cons_zero, List.set_cons_succ]
          refine wpAnyH_done (by kernel_rfl) ?_ _
          have BX := thenB B.out (thenB (Below.refl _ _).drew bev5)
          go_wp2
          go_roundw
          case rel => exact ⟨k + 1, by omega, by go_num, HS.out.symm, BX⟩
          case measure => simp [intOf]; omega
        · rw [hg, if_pos rfl] at hs
          have CC := Hid.mk (fun w' h => suContains_ok (some ⟨b1, o1, none⟩) k ca (xs.take k) z w' (RK.out w' h) hlk.out hmk)
          simp only [hg] at CC
          clear hg RK
          have HS := Hid.mk hs
          clear hs
          go_wp2
          refine wp_region_held_drew (S := (fun w' => w'.cell? ⟨wr.heap.size, 0, none⟩ = some (.int .i64 z.c) ∧ w'.cell? ⟨wr.heap.size, 1, none⟩ = some (.int .i64 z.b) ∧ w'.cell? ⟨wr.heap.size, 2, none⟩ = some (.int .i64 z.m) ∧ w'.cell? ⟨wr.heap.size, 3, none⟩ = some (.int .i64 z.g))) (by kernel_rfl) (K.out _ (Below.refl _ _).drew) (fun hHeld => ?_)
          refine wpAnyH_take (i := 0) (oi := _) (v := ?vfu1) rfl (by kernel_rfl) (by kernel_rfl) (by kernel_rfl) (fun _ _ _ h => h) (Or.inl ⟨by kernel_rfl, ?hyfu1⟩) hHeld ?restfu1
          case hyfu1 => (intro w hSw; (try dsimp only at hSw); go_simp; first | done | with_reducible rfl)
          try simp only [Act.put, List.getElem_toArray, List.getElem_cons_zero, List.setIfInBounds_toArray, List.set_cons_zero, List.set_cons_succ]
          refine wpAnyH_take (i := 1) (oi := _) (v := ?vfu2) rfl (by kernel_rfl) (by kernel_rfl) (by kernel_rfl) (fun _ _ _ h => h) (Or.inl ⟨by kernel_rfl, ?hyfu2⟩) hHeld ?restfu2
          case hyfu2 => (intro w hSw; (try dsimp only at hSw); go_simp; first | done | with_reducible rfl)
          try simp only [Act.put, List.getElem_toArray, List.getElem_cons_zero, List.getElem_cons_succ, List.setIfInBounds_toArray, List.set_cons_zero, List.set_cons_succ]
          refine wpAnyH_take (i := 2) (oi := _) (v := ?vfu3) rfl (by kernel_rfl) (by kernel_rfl) (by kernel_rfl) (fun _ _ _ h => h) (Or.inl ⟨by kernel_rfl, ?hyfu3⟩) hHeld ?restfu3
          case hyfu3 => (intro w hSw; (try dsimp only at hSw); go_simp; first | done | with_reducible rfl)
          try simp only [Act.put, List.getElem_toArray, List.getElem_cons_zero, List.getElem_cons_succ, List.setIfInBounds_toArray, List.set_cons_zero, List.set_cons_succ]
          refine wpAnyH_take (i := 3) (oi := _) (v := ?vfu4) rfl (by kernel_rfl) (by kernel_rfl) (by kernel_rfl) (fun _ _ _ h => h) (Or.inl ⟨by kernel_rfl, ?hyfu4⟩) hHeld ?restfu4
          case hyfu4 => (intro w hSw; (try dsimp only at hSw); go_simp; first | done | with_reducible rfl)
          try simp only [Act.put, List.getElem_toArray, List.getElem_cons_zero, List.getElem_cons_succ, List.setIfInBounds_toArray, List.set_cons_zero, List.set_cons_succ]
          refine wpAnyH_ready (rs := [4]) (by kernel_rfl) (by simp) ?_
          refine AllReadyH.cons (o := _) rfl (fun K0 hK0 => ?_) AllReadyH.nil
          go_simp
          go_at_call 47
          refine (CC.out _ (Below.refl _ _).drew).mono ?_
          rintro e wfv5 ⟨rfl, bfv5⟩
          refine hK0.out _ _ (K.out _ (thenB (Below.refl _ _).drew bfv5)) (fun hHeld => ?_)
          clear hK0 K0
          try simp only [Act.put, List.getElem_toArray, List.getElem_cons_zero, List.getElem_cons_succ, List.setIfInBounds_toArray, List.set_cons_zero, List.set_cons_succ]
          refine wpAnyH_done (by kernel_rfl) ?_ _
          have BX := thenB B.out (thenB (Below.refl _ _).drew bfv5)
          go_wp2
          go_ret
          exact ⟨ret_int HS.out.symm, BX⟩
      · rw [if_neg ho] at hs
        simp only [sfC_no (Bool.not_eq_true _ ▸ ho)] at CF
        have HS := Hid.mk hs
        replace ho := Hid.mk ho
        clear hs haw
        have VB := V.new wr [.int .i64 z.c, .int .i64 z.b, .int .i64 z.m, .int .i64 z.g] 28
        have BB := belowA wr (.cells #[.int .i64 z.c, .int .i64 z.b, .int .i64 z.m, .int .i64 z.g] 28)
        go_wp2_with fail
        refine (CF.out _).mono ?_
        rintro e w1 ⟨rfl, b1⟩
        go_wp2
        go_ret
        exact ⟨ret_int HS.out.symm, thenB B (thenB BB b1)⟩
    · have hkn : k = n := by omega
      subst hkn
      rw [List.drop_of_length_le (by omega)] at hdr
      have HS := Hid.mk hdr
      clear hdr
      go_wp2
      go_ret
      exact ⟨ret_int HS.out, B⟩

set_option maxHeartbeats 2000000 in
theorem specSuitesFault_ok (a : Option Addr) (n ca : Nat) (xs : List Su) (w : World) (ha : RdSuite w a xs) (hn : xs.length = n) (hc : n ≤ ca) (hx : ca ≤ maxLen) :
    Calls Try.prog 25 #[.slice a n ca] w fun e w' => e = .returned (.int .i64 (ssF xs)) ∧ Below w.heap.size w w' := by
  have hx0 := Hid.mk hx
  unfold maxLen at hx
  by_cases h1 : (n : Int) < 1
  · have hr := Hid.mk (ssF_many (xs := xs) (by omega))
    go_enter Try.func25, Try.ntmps25
    go_wp2
    go_ret
    rw [hr.out]
    exact ⟨rfl, Below.refl _ _⟩
  have d1 : decide ((n : Int) < 1) = false := decide_eq_false h1
  by_cases h2 : (10 : Int) < (n : Int)
  · have hr := Hid.mk (ssF_many (xs := xs) (by omega))
    go_enter Try.func25, Try.ntmps25
    go_wp2
    go_ret
    rw [hr.out]
    exact ⟨rfl, Below.refl _ _⟩
  have d2 : decide ((10 : Int) < (n : Int)) = false := decide_eq_false h2
  have hr := ssF_few (xs := xs) (by omega) (by omega)
  rw [hr]
  replace hr := Hid.mk hr
  go_enter Try.func25, Try.ntmps25
  go_wp2
  go_loopw [3] (fun i wr => ∃ k : Nat, k ≤ n ∧ i = .int .i64 k ∧ ssL (xs.take k) (xs.drop k) = ssL [] xs ∧ Below w.heap.size w wr) (fun i _ => n - (intOf i).toNat)
  case atStart => exact ⟨0, Nat.zero_le _, rfl, rfl, Below.refl _ _⟩
  case round =>
    obtain ⟨k, hk, rfl, hdr, B⟩ := hrel
    by_cases hlt : k < n
    · obtain ⟨z, hz⟩ : ∃ z, xs.getD k zSuite = z := ⟨_, rfl⟩
      have hk1 : (k : Int) < (n : Int) := by omega
      have hk2 : (k : Int) ≤ (ca : Int) := by omega
      have hs := ssL_at xs k (by omega) hz
      rw [hdr] at hs
      replace ha := ha.kept B
      have haw := Hid.mk ha
      rcases ha with ha | ⟨b1, o1, rfl, hca⟩
      · simp [ha] at hn; omega
      obtain ⟨p0, p1, p2, p3⟩ := RdSuite.cells hca k (by omega) z hz
      have hlk : (xs.take k).length = k := by rw [List.length_take]; omega
      have hmk : k ≤ maxLen := by unfold maxLen; omega
      replace hlk := Hid.mk hlk
      clear hca hz hdr
      have CF := Hid.mk (fun w => specSuiteFault_ok z w)
      by_cases ho : okSu z = true
      · rw [if_pos ho] at hs
        simp only [sfC_yes ho] at CF
        replace ho := Hid.mk ho
        go_wp2_with fail
        refine (CF.out _).mono ?_
        rintro e w1 ⟨rfl, b1⟩
        have B1 := b1
        clear b1
        have q0 := (B1.cell (p := ⟨b1, o1 + k * 4, none⟩) (World.block_lt_of_cell? (a := ⟨b1, o1 + k * 4, none⟩) wr p0)).trans p0
        have q1 := (B1.cell (p := ⟨b1, o1 + k * 4 + 1, none⟩) (World.block_lt_of_cell? (a := ⟨b1, o1 + k * 4 + 1, none⟩) wr p1)).trans p1
        have q2 := (B1.cell (p := ⟨b1, o1 + k * 4 + 2, none⟩) (World.block_lt_of_cell? (a := ⟨b1, o1 + k * 4 + 2, none⟩) wr p2)).trans p2
        have q3 := (B1.cell (p := ⟨b1, o1 + k * 4 + 3, none⟩) (World.block_lt_of_cell? (a := ⟨b1, o1 + k * 4 + 3, none⟩) wr p3)).trans p3
        have K : ∀ w' : World, Below w1.heap.size w1 w' → (w'.cell? ⟨b1, o1 + k * 4, none⟩ = some (.int .i64 z.c) ∧ w'.cell? ⟨b1, o1 + k * 4 + 1, none⟩ = some (.int .i64 z.b) ∧ w'.cell? ⟨b1, o1 + k * 4 + 2, none⟩ = some (.int .i64 z.m) ∧ w'.cell? ⟨b1, o1 + k * 4 + 3, none⟩ = some (.int .i64 z.g)) := fun w' h => ⟨(h.cell (p := ⟨b1, o1 + k * 4, none⟩) (World.block_lt_of_cell? (a := ⟨b1, o1 + k * 4, none⟩) w1 q0)).trans q0, (h.cell (p := ⟨b1, o1 + k * 4 + 1, none⟩) (World.block_lt_of_cell? (a := ⟨b1, o1 + k * 4 + 1, none⟩) w1 q1)).trans q1, (h.cell (p := ⟨b1, o1 + k * 4 + 2, none⟩) (World.block_lt_of_cell? (a := ⟨b1, o1 + k * 4 + 2, none⟩) w1 q2)).trans q2, (h.cell (p := ⟨b1, o1 + k * 4 + 3, none⟩) (World.block_lt_of_cell? (a := ⟨b1, o1 + k * 4 + 3, none⟩) w1 q3)).trans q3⟩
        have K := Hid.mk K
        have RK : Hid (∀ w', Below w1.heap.size w1 w' → RdSuite w' (some ⟨b1, o1, none⟩) (xs.take k)) := Hid.mk fun w' h => ((haw.out.kept B1).kept h).take k
        replace B1 := thenB B B1
        replace B := Hid.mk B1
        clear B1
        clear haw hlt
        cases hg : hasSu (xs.take k) z
        · rw [hg, if_neg (by simp)] at hs
          have CC := Hid.mk (fun w' h => l8Has_ok (some ⟨b1, o1, none⟩) k ca (xs.take k) z w' (RK.out w' h) hlk.out hmk)
          simp only [hg] at CC
          clear hg RK
          have HS := Hid.mk hs
          clear hs
          go_wp2
          refine wp_region_held_drew (S := (fun w' => w'.cell? ⟨b1, o1 + k * 4, none⟩ = some (.int .i64 z.c) ∧ w'.cell? ⟨b1, o1 + k * 4 + 1, none⟩ = some (.int .i64 z.b) ∧ w'.cell? ⟨b1, o1 + k * 4 + 2, none⟩ = some (.int .i64 z.m) ∧ w'.cell? ⟨b1, o1 + k * 4 + 3, none⟩ = some (.int .i64 z.g))) (by kernel_rfl) (K.out _ (Below.refl _ _).drew) (fun hHeld => ?_)
          refine wpAnyH_take (i := 0) (oi := _) (v := ?veu1) rfl (by kernel_rfl) (by kernel_rfl) (by kernel_rfl) (fun _ _ _ h => h) (Or.inl ⟨by kernel_rfl, ?hyeu1⟩) hHeld ?resteu1
          case hyeu1 => (intro w hSw; (try dsimp only at hSw); go_simp; first | done | with_reducible rfl)
          try simp only [Act.put, List.getElem_toArray, List.getElem_cons_zero, List.setIfInBounds_toArray, List.set_cons_zero, List.set_cons_succ]
          refine wpAnyH_take (i := 1) (oi := _) (v := ?veu2) rfl (by kernel_rfl) (by kernel_rfl) (by kernel_rfl) (fun _ _ _ h => h) (Or.inl ⟨by kernel_rfl, ?hyeu2⟩) hHeld ?resteu2
          case hyeu2 => (intro w hSw; (try dsimp only at hSw); go_simp; first | done | with_reducible rfl)
          try simp only [Act.put, List.getElem_toArray, List.getElem_cons_zero, List.getElem_cons_succ, List.setIfInBounds_toArray, List.set_cons_zero, List.set_cons_succ]
          refine wpAnyH_take (i := 2) (oi := _) (v := ?veu3) rfl (by kernel_rfl) (by kernel_rfl) (by kernel_rfl) (fun _ _ _ h => h) (Or.inl ⟨by kernel_rfl, ?hyeu3⟩) hHeld ?resteu3
          case hyeu3 => (intro w hSw; (try dsimp only at hSw); go_simp; first | done | with_reducible rfl)
          try simp only [Act.put, List.getElem_toArray, List.getElem_cons_zero, List.getElem_cons_succ, List.setIfInBounds_toArray, List.set_cons_zero, List.set_cons_succ]
          refine wpAnyH_take (i := 3) (oi := _) (v := ?veu4) rfl (by kernel_rfl) (by kernel_rfl) (by kernel_rfl) (fun _ _ _ h => h) (Or.inl ⟨by kernel_rfl, ?hyeu4⟩) hHeld ?resteu4
          case hyeu4 => (intro w hSw; (try dsimp only at hSw); go_simp; first | done | with_reducible rfl)
          try simp only [Act.put, List.getElem_toArray, List.getElem_cons_zero, List.getElem_cons_succ, List.setIfInBounds_toArray, List.set_cons_zero, List.set_cons_succ]
          refine wpAnyH_take (i := 4) (oi := _) (v := ?veu5) rfl (by kernel_rfl) (by kernel_rfl) (by kernel_rfl) (fun _ _ _ h => h) (Or.inl ⟨by kernel_rfl, ?hyeu5⟩) hHeld ?resteu5
          case hyeu5 => (intro w hSw; (try dsimp only at hSw); go_simp; first | done | with_reducible rfl)
          try simp only [Act.put, List.getElem_toArray, List.getElem_cons_zero, List.getElem_cons_succ, List.setIfInBounds_toArray, List.set_cons_zero, List.set_cons_succ]
          refine wpAnyH_take (i := 5) (oi := _) (v := ?veu6) rfl (by kernel_rfl) (by kernel_rfl) (by kernel_rfl) (fun _ _ _ h => h) (Or.inl ⟨by kernel_rfl, ?hyeu6⟩) hHeld ?resteu6
          case hyeu6 => (intro w hSw; (try dsimp only at hSw); go_simp; first | done | with_reducible rfl)
          try simp only [Act.put, List.getElem_toArray, List.getElem_cons_zero, List.getElem_cons_succ, List.setIfInBounds_toArray, List.set_cons_zero, List.set_cons_succ]
          refine wpAnyH_take (i := 6) (oi := _) (v := ?veu7) rfl (by kernel_rfl) (by kernel_rfl) (by kernel_rfl) (fun _ _ _ h => h) (Or.inl ⟨by kernel_rfl, ?hyeu7⟩) hHeld ?resteu7
          case hyeu7 => (intro w hSw; (try dsimp only at hSw); go_simp; first | done | with_reducible rfl)
          try simp only [Act.put, List.getElem_toArray, List.getElem_cons_zero, List.getElem_cons_succ, List.setIfInBounds_toArray, List.set_cons_zero, List.set_cons_succ]
          refine wpAnyH_ready (rs := [7]) (by kernel_rfl) (by simp) ?_
          refine AllReadyH.cons (o := _) rfl (fun K0 hK0 => ?_) AllReadyH.nil
          go_simp
          go_at_call 49
          refine (CC.out _ (Below.refl _ _).drew).mono ?_
          rintro e wev8 ⟨rfl, bev8⟩
          refine hK0.out _ _ (K.out _ (thenB (Below.refl _ _).drew bev8)) (fun hHeld => ?_)
          clear hK0 K0
          try simp only [Act.put, List.getElem_toArray, List.getElem_cons_zero, List.getElem_cons_succ, List.setIfInBounds_toArray, List.set_cons_zero, List.set_cons_succ]
          refine wpAnyH_done (by kernel_rfl) ?_ _
          have BX := thenB B.out (thenB (Below.refl _ _).drew bev8)
          go_wp2
          go_roundw
          case rel => exact ⟨k + 1, by omega, by go_num, HS.out.symm, BX⟩
          case measure => simp [intOf]; omega
        · rw [hg, if_pos rfl] at hs
          have CC := Hid.mk (fun w' h => l8Has_ok (some ⟨b1, o1, none⟩) k ca (xs.take k) z w' (RK.out w' h) hlk.out hmk)
          simp only [hg] at CC
          clear hg RK
          have HS := Hid.mk hs
          clear hs
          go_wp2
          refine wp_region_held_drew (S := (fun w' => w'.cell? ⟨b1, o1 + k * 4, none⟩ = some (.int .i64 z.c) ∧ w'.cell? ⟨b1, o1 + k * 4 + 1, none⟩ = some (.int .i64 z.b) ∧ w'.cell? ⟨b1, o1 + k * 4 + 2, none⟩ = some (.int .i64 z.m) ∧ w'.cell? ⟨b1, o1 + k * 4 + 3, none⟩ = some (.int .i64 z.g))) (by kernel_rfl) (K.out _ (Below.refl _ _).drew) (fun hHeld => ?_)
          refine wpAnyH_take (i := 0) (oi := _) (v := ?vfu1) rfl (by kernel_rfl) (by kernel_rfl) (by kernel_rfl) (fun _ _ _ h => h) (Or.inl ⟨by kernel_rfl, ?hyfu1⟩) hHeld ?restfu1
          case hyfu1 => (intro w hSw; (try dsimp only at hSw); go_simp; first | done | with_reducible rfl)
          try simp only [Act.put, List.getElem_toArray, List.getElem_cons_zero, List.setIfInBounds_toArray, List.set_cons_zero, List.set_cons_succ]
          refine wpAnyH_take (i := 1) (oi := _) (v := ?vfu2) rfl (by kernel_rfl) (by kernel_rfl) (by kernel_rfl) (fun _ _ _ h => h) (Or.inl ⟨by kernel_rfl, ?hyfu2⟩) hHeld ?restfu2
          case hyfu2 => (intro w hSw; (try dsimp only at hSw); go_simp; first | done | with_reducible rfl)
          try simp only [Act.put, List.getElem_toArray, List.getElem_cons_zero, List.getElem_cons_succ, List.setIfInBounds_toArray, List.set_cons_zero, List.set_cons_succ]
          refine wpAnyH_take (i := 2) (oi := _) (v := ?vfu3) rfl (by kernel_rfl) (by kernel_rfl) (by kernel_rfl) (fun _ _ _ h => h) (Or.inl ⟨by kernel_rfl, ?hyfu3⟩) hHeld ?restfu3
          case hyfu3 => (intro w hSw; (try dsimp only at hSw); go_simp; first | done | with_reducible rfl)
          try simp only [Act.put, List.getElem_toArray, List.getElem_cons_zero, List.getElem_cons_succ, List.setIfInBounds_toArray, List.set_cons_zero, List.set_cons_succ]
          refine wpAnyH_take (i := 3) (oi := _) (v := ?vfu4) rfl (by kernel_rfl) (by kernel_rfl) (by kernel_rfl) (fun _ _ _ h => h) (Or.inl ⟨by kernel_rfl, ?hyfu4⟩) hHeld ?restfu4
          case hyfu4 => (intro w hSw; (try dsimp only at hSw); go_simp; first | done | with_reducible rfl)
          try simp only [Act.put, List.getElem_toArray, List.getElem_cons_zero, List.getElem_cons_succ, List.setIfInBounds_toArray, List.set_cons_zero, List.set_cons_succ]
          refine wpAnyH_take (i := 4) (oi := _) (v := ?vfu5) rfl (by kernel_rfl) (by kernel_rfl) (by kernel_rfl) (fun _ _ _ h => h) (Or.inl ⟨by kernel_rfl, ?hyfu5⟩) hHeld ?restfu5
          case hyfu5 => (intro w hSw; (try dsimp only at hSw); go_simp; first | done | with_reducible rfl)
          try simp only [Act.put, List.getElem_toArray, List.getElem_cons_zero, List.getElem_cons_succ, List.setIfInBounds_toArray, List.set_cons_zero, List.set_cons_succ]
          refine wpAnyH_take (i := 5) (oi := _) (v := ?vfu6) rfl (by kernel_rfl) (by kernel_rfl) (by kernel_rfl) (fun _ _ _ h => h) (Or.inl ⟨by kernel_rfl, ?hyfu6⟩) hHeld ?restfu6
          case hyfu6 => (intro w hSw; (try dsimp only at hSw); go_simp; first | done | with_reducible rfl)
          try simp only [Act.put, List.getElem_toArray, List.getElem_cons_zero, List.getElem_cons_succ, List.setIfInBounds_toArray, List.set_cons_zero, List.set_cons_succ]
          refine wpAnyH_take (i := 6) (oi := _) (v := ?vfu7) rfl (by kernel_rfl) (by kernel_rfl) (by kernel_rfl) (fun _ _ _ h => h) (Or.inl ⟨by kernel_rfl, ?hyfu7⟩) hHeld ?restfu7
          case hyfu7 => (intro w hSw; (try dsimp only at hSw); go_simp; first | done | with_reducible rfl)
          try simp only [Act.put, List.getElem_toArray, List.getElem_cons_zero, List.getElem_cons_succ, List.setIfInBounds_toArray, List.set_cons_zero, List.set_cons_succ]
          refine wpAnyH_ready (rs := [7]) (by kernel_rfl) (by simp) ?_
          refine AllReadyH.cons (o := _) rfl (fun K0 hK0 => ?_) AllReadyH.nil
          go_simp
          go_at_call 49
          refine (CC.out _ (Below.refl _ _).drew).mono ?_
          rintro e wfv8 ⟨rfl, bfv8⟩
          refine hK0.out _ _ (K.out _ (thenB (Below.refl _ _).drew bfv8)) (fun hHeld => ?_)
          clear hK0 K0
          try simp only [Act.put, List.getElem_toArray, List.getElem_cons_zero, List.getElem_cons_succ, List.setIfInBounds_toArray, List.set_cons_zero, List.set_cons_succ]
          refine wpAnyH_done (by kernel_rfl) ?_ _
          have BX := thenB B.out (thenB (Below.refl _ _).drew bfv8)
          go_wp2
          go_ret
          exact ⟨ret_int HS.out.symm, BX⟩
      · rw [if_neg ho] at hs
        simp only [sfC_no (Bool.not_eq_true _ ▸ ho)] at CF
        have HS := Hid.mk hs
        replace ho := Hid.mk ho
        clear hs haw
        go_wp2_with fail
        refine (CF.out _).mono ?_
        rintro e w1 ⟨rfl, b1⟩
        go_wp2
        go_ret
        exact ⟨ret_int HS.out.symm, thenB B b1⟩
    · have hkn : k = n := by omega
      subst hkn
      rw [List.drop_of_length_le (by omega)] at hdr
      have HS := Hid.mk hdr
      clear hdr
      go_wp2
      go_ret
      exact ⟨ret_int HS.out, B⟩

end Go.Proofs.Ythaaompkcomfcaa
