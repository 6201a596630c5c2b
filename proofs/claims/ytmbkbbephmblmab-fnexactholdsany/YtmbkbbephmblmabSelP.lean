/- A packet held by one of a list: the model. -/
import Derived.Test.YtmbkbbephmblmabSelO
import Derived.Deep.RegionHeld3
namespace Go.Proofs.Ytmbkbbephmblmab
open Go.RowKit

set_option maxHeartbeats 2000000 in
theorem l3Any_ok (a : Option Addr) (n ca : Nat) (xs : List S9) (f t r l u v : Int) (s : Option Addr) (m cs : Nat) (w : World) (ha : RdL w a xs) (hn : xs.length = n) (hx : n ≤ maxLen) :
    Calls Try.prog 43 #[.slice a n ca, .agg #[.int .i64 f, .int .i64 t, .int .i64 r, .int .i64 l, .int .i64 u, .int .i64 v, .slice s m cs]] w fun e w' => e = .returned (.bool (anyP xs f t r u v)) ∧ Below w.heap.size w w' := by
  unfold maxLen at hx
  unfold anyP
  have VP := V.new w [.int .i64 f, .int .i64 t, .int .i64 r, .int .i64 l, .int .i64 u, .int .i64 v, .slice s m cs] 44
  have B := belowA w (.cells #[.int .i64 f, .int .i64 t, .int .i64 r, .int .i64 l, .int .i64 u, .int .i64 v, .slice s m cs] 44)
  replace ha := ha.kept B
  go_enter Try.func43, Try.ntmps43
  go_wp2
  go_loopw [5] (fun i wr => ∃ k : Nat, k ≤ n ∧ i = .int .i64 k ∧ ((xs.drop k).any fun x => inP x f t r u v) = (xs.any fun x => inP x f t r u v) ∧ V wr w.heap.size [.int .i64 f, .int .i64 t, .int .i64 r, .int .i64 l, .int .i64 u, .int .i64 v, .slice s m cs] ∧ RdL wr a xs ∧ Below w.heap.size w wr) (fun i _ => n - (intOf i).toNat)
  case atStart => exact ⟨0, Nat.zero_le _, rfl, rfl, VP, ha, B⟩
  case round =>
    clear VP ha B
    obtain ⟨k, hk, rfl, hdr, VP, ha, B⟩ := hrel
    by_cases hlt : k < n
    · have HA := Hid.mk ha
      rcases ha with ha | ⟨b1, o1, rfl, hca⟩
      · simp [ha] at hn; omega
      obtain ⟨x, hx1⟩ : ∃ x, xs.getD k z9 = x := ⟨_, rfl⟩
      obtain ⟨p0, p1, p2, p3, p4, p5, p6, p7, p8⟩ := RdL.nine hca k (by omega) x hx1
      have hk1 : (k : Int) < (n : Int) := by omega
      have hs := any_drop (fun x => inP x f t r u v) xs k (by omega)
      rw [hx1, hdr] at hs
      clear hca hx1 hdr
      have CX := Hid.mk (fun w => l3Holds_ok x f t r l u v s m cs w)
      have HS := Hid.mk hs
      clear hs
      have K : ∀ w' : World, Below wr.heap.size wr w' → (w'.cell? ⟨b1, o1 + k * 9, none⟩ = some (.int .i64 x.a) ∧ w'.cell? ⟨b1, o1 + k * 9 + 1, none⟩ = some (.int .i64 x.b) ∧ w'.cell? ⟨b1, o1 + k * 9 + 2, none⟩ = some (.int .i64 x.c) ∧ w'.cell? ⟨b1, o1 + k * 9 + 3, none⟩ = some (.int .i64 x.d) ∧ w'.cell? ⟨b1, o1 + k * 9 + 4, none⟩ = some (.int .i64 x.e) ∧ w'.cell? ⟨b1, o1 + k * 9 + 5, none⟩ = some (.int .i64 x.f) ∧ w'.cell? ⟨b1, o1 + k * 9 + 6, none⟩ = some (.int .i64 x.g) ∧ w'.cell? ⟨b1, o1 + k * 9 + 7, none⟩ = some (.int .i64 x.h) ∧ w'.cell? ⟨b1, o1 + k * 9 + 8, none⟩ = some (.int .i64 x.r) ∧ w'.cell? ⟨w.heap.size, 0, none⟩ = some (.int .i64 f) ∧ w'.cell? ⟨w.heap.size, 1, none⟩ = some (.int .i64 t) ∧ w'.cell? ⟨w.heap.size, 2, none⟩ = some (.int .i64 r) ∧ w'.cell? ⟨w.heap.size, 3, none⟩ = some (.int .i64 l) ∧ w'.cell? ⟨w.heap.size, 4, none⟩ = some (.int .i64 u) ∧ w'.cell? ⟨w.heap.size, 5, none⟩ = some (.int .i64 v) ∧ w'.cell? ⟨w.heap.size, 6, none⟩ = some (.slice s m cs)) := fun w' h => ⟨(h.cell (p := ⟨b1, o1 + k * 9, none⟩) (World.block_lt_of_cell? (a := ⟨b1, o1 + k * 9, none⟩) wr p0)).trans p0, (h.cell (p := ⟨b1, o1 + k * 9 + 1, none⟩) (World.block_lt_of_cell? (a := ⟨b1, o1 + k * 9 + 1, none⟩) wr p1)).trans p1, (h.cell (p := ⟨b1, o1 + k * 9 + 2, none⟩) (World.block_lt_of_cell? (a := ⟨b1, o1 + k * 9 + 2, none⟩) wr p2)).trans p2, (h.cell (p := ⟨b1, o1 + k * 9 + 3, none⟩) (World.block_lt_of_cell? (a := ⟨b1, o1 + k * 9 + 3, none⟩) wr p3)).trans p3, (h.cell (p := ⟨b1, o1 + k * 9 + 4, none⟩) (World.block_lt_of_cell? (a := ⟨b1, o1 + k * 9 + 4, none⟩) wr p4)).trans p4, (h.cell (p := ⟨b1, o1 + k * 9 + 5, none⟩) (World.block_lt_of_cell? (a := ⟨b1, o1 + k * 9 + 5, none⟩) wr p5)).trans p5, (h.cell (p := ⟨b1, o1 + k * 9 + 6, none⟩) (World.block_lt_of_cell? (a := ⟨b1, o1 + k * 9 + 6, none⟩) wr p6)).trans p6, (h.cell (p := ⟨b1, o1 + k * 9 + 7, none⟩) (World.block_lt_of_cell? (a := ⟨b1, o1 + k * 9 + 7, none⟩) wr p7)).trans p7, (h.cell (p := ⟨b1, o1 + k * 9 + 8, none⟩) (World.block_lt_of_cell? (a := ⟨b1, o1 + k * 9 + 8, none⟩) wr p8)).trans p8, (VP.kept h).2.1 0 (by simp), (VP.kept h).2.1 1 (by simp), (VP.kept h).2.1 2 (by simp), (VP.kept h).2.1 3 (by simp), (VP.kept h).2.1 4 (by simp), (VP.kept h).2.1 5 (by simp), (VP.kept h).2.1 6 (by simp)⟩
      have K := Hid.mk K
      by_cases hg : inP x f t r u v = true
      · rw [hg] at CX HS
        clear hg
        go_wp2
        refine wp_region_held_drew (S := (fun w' => w'.cell? ⟨b1, o1 + k * 9, none⟩ = some (.int .i64 x.a) ∧ w'.cell? ⟨b1, o1 + k * 9 + 1, none⟩ = some (.int .i64 x.b) ∧ w'.cell? ⟨b1, o1 + k * 9 + 2, none⟩ = some (.int .i64 x.c) ∧ w'.cell? ⟨b1, o1 + k * 9 + 3, none⟩ = some (.int .i64 x.d) ∧ w'.cell? ⟨b1, o1 + k * 9 + 4, none⟩ = some (.int .i64 x.e) ∧ w'.cell? ⟨b1, o1 + k * 9 + 5, none⟩ = some (.int .i64 x.f) ∧ w'.cell? ⟨b1, o1 + k * 9 + 6, none⟩ = some (.int .i64 x.g) ∧ w'.cell? ⟨b1, o1 + k * 9 + 7, none⟩ = some (.int .i64 x.h) ∧ w'.cell? ⟨b1, o1 + k * 9 + 8, none⟩ = some (.int .i64 x.r) ∧ w'.cell? ⟨w.heap.size, 0, none⟩ = some (.int .i64 f) ∧ w'.cell? ⟨w.heap.size, 1, none⟩ = some (.int .i64 t) ∧ w'.cell? ⟨w.heap.size, 2, none⟩ = some (.int .i64 r) ∧ w'.cell? ⟨w.heap.size, 3, none⟩ = some (.int .i64 l) ∧ w'.cell? ⟨w.heap.size, 4, none⟩ = some (.int .i64 u) ∧ w'.cell? ⟨w.heap.size, 5, none⟩ = some (.int .i64 v) ∧ w'.cell? ⟨w.heap.size, 6, none⟩ = some (.slice s m cs))) (by kernel_rfl) (K.out _ (Below.refl _ _).drew) (fun hHeld => ?_)
        refine wpAnyH_take (i := 0) (oi := _) (v := ?veu1) rfl (by kernel_rfl) (by kernel_rfl) (by kernel_rfl) (fun _ _ _ h => h) (Or.inl ⟨by rfl, ?hyeu1⟩) hHeld ?resteu1
        case hyeu1 => (intro w hSw; (try dsimp only at hSw); go_simp; first | done | with_reducible rfl)
        try simp only [Act.put, List.getElem_toArray, List.getElem_cons_zero, List.setIfInBounds_toArray, List.set_cons_zero, List.set_cons_succ]
        refine wpAnyH_take (i := 1) (oi := _) (v := ?veu2) rfl (by kernel_rfl) (by kernel_rfl) (by kernel_rfl) (fun _ _ _ h => h) (Or.inl ⟨by rfl, ?hyeu2⟩) hHeld ?resteu2
        case hyeu2 => (intro w hSw; (try dsimp only at hSw); go_simp; first | done | with_reducible rfl)
        try simp only [Act.put, List.getElem_toArray, List.getElem_cons_zero, List.getElem_cons_succ, List.setIfInBounds_toArray, List.set_cons_zero, List.set_cons_succ]
        refine wpAnyH_take (i := 2) (oi := _) (v := ?veu3) rfl (by kernel_rfl) (by kernel_rfl) (by kernel_rfl) (fun _ _ _ h => h) (Or.inl ⟨by rfl, ?hyeu3⟩) hHeld ?resteu3
        case hyeu3 => (intro w hSw; (try dsimp only at hSw); go_simp; first | done | with_reducible rfl)
        try simp only [Act.put, List.getElem_toArray, List.getElem_cons_zero, List.getElem_cons_succ, List.setIfInBounds_toArray, List.set_cons_zero, List.set_cons_succ]
        refine wpAnyH_take (i := 3) (oi := _) (v := ?veu4) rfl (by kernel_rfl) (by kernel_rfl) (by kernel_rfl) (fun _ _ _ h => h) (Or.inl ⟨by rfl, ?hyeu4⟩) hHeld ?resteu4
        case hyeu4 => (intro w hSw; (try dsimp only at hSw); go_simp; first | done | with_reducible rfl)
        try simp only [Act.put, List.getElem_toArray, List.getElem_cons_zero, List.getElem_cons_succ, List.setIfInBounds_toArray, List.set_cons_zero, List.set_cons_succ]
        refine wpAnyH_take (i := 4) (oi := _) (v := ?veu5) rfl (by kernel_rfl) (by kernel_rfl) (by kernel_rfl) (fun _ _ _ h => h) (Or.inl ⟨by rfl, ?hyeu5⟩) hHeld ?resteu5
        case hyeu5 => (intro w hSw; (try dsimp only at hSw); go_simp; first | done | with_reducible rfl)
        try simp only [Act.put, List.getElem_toArray, List.getElem_cons_zero, List.getElem_cons_succ, List.setIfInBounds_toArray, List.set_cons_zero, List.set_cons_succ]
        refine wpAnyH_ready (rs := [5]) (by kernel_rfl) (by simp) ?_
        refine AllReadyH.cons (o := _) rfl (fun K0 hK0 => ?_) AllReadyH.nil
        go_simp
        go_at_call 66
        refine (CX.out _).mono ?_
        rintro e wev6 ⟨rfl, bev6⟩
        refine hK0.out _ _ (K.out _ (thenB (Below.refl _ _).drew bev6)) (fun hHeld => ?_)
        clear hK0 K0
        try simp only [Act.put, List.getElem_toArray, List.getElem_cons_zero, List.getElem_cons_succ, List.setIfInBounds_toArray, List.set_cons_zero, List.set_cons_succ]
        refine wpAnyH_done (by kernel_rfl) ?_ _
        have BX := B.trans ((thenB (Below.refl _ _).drew bev6).mono B.size)
        go_wp2
        go_ret
        exact ⟨ret_bool HS.out.symm, BX⟩
      · rw [Bool.not_eq_true] at hg
        rw [hg] at CX HS
        rw [Bool.false_or] at HS
        clear hg
        go_wp2
        refine wp_region_held_drew (S := (fun w' => w'.cell? ⟨b1, o1 + k * 9, none⟩ = some (.int .i64 x.a) ∧ w'.cell? ⟨b1, o1 + k * 9 + 1, none⟩ = some (.int .i64 x.b) ∧ w'.cell? ⟨b1, o1 + k * 9 + 2, none⟩ = some (.int .i64 x.c) ∧ w'.cell? ⟨b1, o1 + k * 9 + 3, none⟩ = some (.int .i64 x.d) ∧ w'.cell? ⟨b1, o1 + k * 9 + 4, none⟩ = some (.int .i64 x.e) ∧ w'.cell? ⟨b1, o1 + k * 9 + 5, none⟩ = some (.int .i64 x.f) ∧ w'.cell? ⟨b1, o1 + k * 9 + 6, none⟩ = some (.int .i64 x.g) ∧ w'.cell? ⟨b1, o1 + k * 9 + 7, none⟩ = some (.int .i64 x.h) ∧ w'.cell? ⟨b1, o1 + k * 9 + 8, none⟩ = some (.int .i64 x.r) ∧ w'.cell? ⟨w.heap.size, 0, none⟩ = some (.int .i64 f) ∧ w'.cell? ⟨w.heap.size, 1, none⟩ = some (.int .i64 t) ∧ w'.cell? ⟨w.heap.size, 2, none⟩ = some (.int .i64 r) ∧ w'.cell? ⟨w.heap.size, 3, none⟩ = some (.int .i64 l) ∧ w'.cell? ⟨w.heap.size, 4, none⟩ = some (.int .i64 u) ∧ w'.cell? ⟨w.heap.size, 5, none⟩ = some (.int .i64 v) ∧ w'.cell? ⟨w.heap.size, 6, none⟩ = some (.slice s m cs))) (by kernel_rfl) (K.out _ (Below.refl _ _).drew) (fun hHeld => ?_)
        refine wpAnyH_take (i := 0) (oi := _) (v := ?vfu1) rfl (by kernel_rfl) (by kernel_rfl) (by kernel_rfl) (fun _ _ _ h => h) (Or.inl ⟨by rfl, ?hyfu1⟩) hHeld ?restfu1
        case hyfu1 => (intro w hSw; (try dsimp only at hSw); go_simp; first | done | with_reducible rfl)
        try simp only [Act.put, List.getElem_toArray, List.getElem_cons_zero, List.setIfInBounds_toArray, List.set_cons_zero, List.set_cons_succ]
        refine wpAnyH_take (i := 1) (oi := _) (v := ?vfu2) rfl (by kernel_rfl) (by kernel_rfl) (by kernel_rfl) (fun _ _ _ h => h) (Or.inl ⟨by rfl, ?hyfu2⟩) hHeld ?restfu2
        case hyfu2 => (intro w hSw; (try dsimp only at hSw); go_simp; first | done | with_reducible rfl)
        try simp only [Act.put, List.getElem_toArray, List.getElem_cons_zero, List.getElem_cons_succ, List.setIfInBounds_toArray, List.set_cons_zero, List.set_cons_succ]
        refine wpAnyH_take (i := 2) (oi := _) (v := ?vfu3) rfl (by kernel_rfl) (by kernel_rfl) (by kernel_rfl) (fun _ _ _ h => h) (Or.inl ⟨by rfl, ?hyfu3⟩) hHeld ?restfu3
        case hyfu3 => (intro w hSw; (try dsimp only at hSw); go_simp; first | done | with_reducible rfl)
        try simp only [Act.put, List.getElem_toArray, List.getElem_cons_zero, List.getElem_cons_succ, List.setIfInBounds_toArray, List.set_cons_zero, List.set_cons_succ]
        refine wpAnyH_take (i := 3) (oi := _) (v := ?vfu4) rfl (by kernel_rfl) (by kernel_rfl) (by kernel_rfl) (fun _ _ _ h => h) (Or.inl ⟨by rfl, ?hyfu4⟩) hHeld ?restfu4
        case hyfu4 => (intro w hSw; (try dsimp only at hSw); go_simp; first | done | with_reducible rfl)
        try simp only [Act.put, List.getElem_toArray, List.getElem_cons_zero, List.getElem_cons_succ, List.setIfInBounds_toArray, List.set_cons_zero, List.set_cons_succ]
        refine wpAnyH_take (i := 4) (oi := _) (v := ?vfu5) rfl (by kernel_rfl) (by kernel_rfl) (by kernel_rfl) (fun _ _ _ h => h) (Or.inl ⟨by rfl, ?hyfu5⟩) hHeld ?restfu5
        case hyfu5 => (intro w hSw; (try dsimp only at hSw); go_simp; first | done | with_reducible rfl)
        try simp only [Act.put, List.getElem_toArray, List.getElem_cons_zero, List.getElem_cons_succ, List.setIfInBounds_toArray, List.set_cons_zero, List.set_cons_succ]
        refine wpAnyH_ready (rs := [5]) (by kernel_rfl) (by simp) ?_
        refine AllReadyH.cons (o := _) rfl (fun K0 hK0 => ?_) AllReadyH.nil
        go_simp
        go_at_call 66
        refine (CX.out _).mono ?_
        rintro e wfv6 ⟨rfl, bfv6⟩
        refine hK0.out _ _ (K.out _ (thenB (Below.refl _ _).drew bfv6)) (fun hHeld => ?_)
        clear hK0 K0
        try simp only [Act.put, List.getElem_toArray, List.getElem_cons_zero, List.getElem_cons_succ, List.setIfInBounds_toArray, List.set_cons_zero, List.set_cons_succ]
        refine wpAnyH_done (by kernel_rfl) ?_ _
        have BX := B.trans ((thenB (Below.refl _ _).drew bfv6).mono B.size)
        have VX := VP.kept (thenB (Below.refl _ _).drew bfv6)
        have HX := HA.out.kept (thenB (Below.refl _ _).drew bfv6)
        clear VP HA B K
        replace VX := Hid.mk VX
        go_wp2
        go_roundw
        case rel => exact ⟨k + 1, by omega, by go_num, HS.out.symm, VX.out, HX, BX⟩
        case measure => simp [intOf]; omega
    · have hkn : k = n := by omega
      subst hkn
      rw [List.drop_of_length_le (by omega)] at hdr
      have HS := Hid.mk hdr
      clear hdr
      go_wp2
      go_ret
      exact ⟨ret_bool HS.out, B⟩

theorem haP_ways (xs : List S9) (f t r l u v : Int) (m : Nat) :
    ((ssC xs == 0) = false ∧ Hid (haP xs f t r l u v m = false)) ∨
    ((ssC xs == 0) = true ∧ (pfC f t r l u v m == 0) = false ∧ Hid (haP xs f t r l u v m = false)) ∨
    ((ssC xs == 0) = true ∧ (pfC f t r l u v m == 0) = true ∧ Hid (haP xs f t r l u v m = anyP xs f t r u v)) := by
  unfold Hid haP
  generalize (ssC xs == 0) = p
  generalize (pfC f t r l u v m == 0) = q
  cases p <;> cases q <;> simp

set_option maxHeartbeats 2000000 in
theorem specHoldsAny_ok (a : Option Addr) (n ca : Nat) (xs : List S9) (f t r l u v : Int) (s : Option Addr) (m cs : Nat) (w : World) (ha : RdL w a xs) (hn : xs.length = n) (hx : n ≤ maxLen) :
    Calls Try.prog 18 #[.slice a n ca, .agg #[.int .i64 f, .int .i64 t, .int .i64 r, .int .i64 l, .int .i64 u, .int .i64 v, .slice s m cs]] w fun e w' => e = .returned (.bool (haP xs f t r l u v m)) ∧ Below w.heap.size w w' := by
  have CS := Hid.mk (fun w h => specSelsFault_ok a n ca xs w h hn hx)
  have CP := Hid.mk (fun w => specPacketFault_ok f t r l u v s m cs w)
  have CA := Hid.mk (fun w h => l3Any_ok a n ca xs f t r l u v s m cs w h hn hx)
  have VP := V.new w [.int .i64 f, .int .i64 t, .int .i64 r, .int .i64 l, .int .i64 u, .int .i64 v, .slice s m cs] 44
  have B := belowA w (.cells #[.int .i64 f, .int .i64 t, .int .i64 r, .int .i64 l, .int .i64 u, .int .i64 v, .slice s m cs] 44)
  replace ha := Hid.mk (ha.kept B)
  rcases haP_ways xs f t r l u v m with ⟨h1, hr⟩ | ⟨h1, h2, hr⟩ | ⟨h1, h2, hr⟩
  all_goals
    rw [hr.out]
    clear hr
    go_enter Try.func18, Try.ntmps18
    obtain ⟨s_VP, f_VP, z_VP⟩ := VP.open
    go_wp2_with fail
    refine (CS.out _ ha.out).mono ?_
    rintro e w1 ⟨rfl, b1⟩
    clear s_VP f_VP z_VP
    replace VP := VP.kept b1
    replace ha := Hid.mk (ha.out.kept b1)
    replace B := thenB B b1
    clear b1
    obtain ⟨s_VP, f_VP, z_VP⟩ := VP.open
  · go_wp2
    go_ret
    exact ⟨rfl, B⟩
  all_goals
    go_wp2_with fail
    refine (CP.out _).mono ?_
    rintro e w2 ⟨rfl, b2⟩
    clear s_VP f_VP z_VP
    replace VP := VP.kept b2
    replace ha := Hid.mk (ha.out.kept b2)
    replace B := thenB B b2
    clear b2
    obtain ⟨s_VP, f_VP, z_VP⟩ := VP.open
  · go_wp2
    go_ret
    exact ⟨rfl, B⟩
  · go_wp2_with fail
    refine (CA.out _ ha.out).mono ?_
    rintro e w3 ⟨rfl, b3⟩
    clear s_VP f_VP z_VP
    replace B := thenB B b3
    clear b3
    go_wp2
    go_ret
    exact ⟨rfl, B⟩

end Go.Proofs.Ytmbkbbephmblmab
