/- A list put as pairs: the model. -/
import Derived.Test.YthkmoabkeblbjaaTmF
import Derived.Test.YthkmoabkeblbjaaNu
import Derived.Test.YthkmoabkeblbjaaMb
namespace Go.Proofs.Ythkmoabkeblbjaa
open Go.RowKit

theorem build_n0 (w : World) : (Instr.build 36 #[(0, .int .i64 1)]).run Try.prog w = .ok (.agg #[.int .i64 1, .int .i64 0, .int .i64 0, .int .i64 0]) w := run_build w 36 _ _ (by kernel_rfl)
theorem build_pr (x y : Int) (w : World) : (Instr.build 36 #[(0, .int .i64 3), (1, .int .i64 x), (2, .int .i64 y)]).run Try.prog w = .ok (.agg #[.int .i64 3, .int .i64 x, .int .i64 y, .int .i64 0]) w := run_build w 36 _ _ (by kernel_rfl)

theorem Rd.tail {k : IntKind} {w : World} {b o : Nat} {x : Int} {zs : List Int} (h : Rd k w (some ⟨b, o, none⟩) (x :: zs)) : Rd k w (some ⟨b, o + 1, none⟩) zs := by
  rcases h with h | ⟨b', o', e, hc⟩
  · cases h
  · simp only [Option.some.injEq, Addr.mk.injEq, and_true] at e
    obtain ⟨rfl, rfl⟩ := e
    refine .inr ⟨b, o + 1, rfl, fun i hi => ?_⟩
    have := hc (i + 1) (by simpa using hi)
    rw [show o + 1 + i = o + (i + 1) by omega, this]
    simp

set_option maxRecDepth 20000 in
set_option maxHeartbeats 8000000 in
theorem l5List_ok (zs : List Int) : ∀ (xs : List T4) (a : Option Addr) (n ca : Nat) (c : Option Addr) (m d : Nat) (w : World), RdTerm w a xs → xs.length = n → n ≤ 400 → (a = none → ca = 0) → Rd .i64 w c zs → zs.length = m → m ≤ d →
    Calls Try.prog 94 #[.slice a n ca, .slice c m d] w fun e w' => ∃ c4 d4, e = .returned (.agg #[.int .i64 (plP xs zs).c, .int .i64 (plP xs zs).k, .slice c4 (plP xs zs).l.length d4]) ∧ OwnTerm w' w.heap.size c4 d4 (plP xs zs).l ∧ Below w.heap.size w w' := by
  induction zs with
  | nil =>
    intro xs a n ca c m d w ha hn hx hca hR hm hd
    have q1 := build_n0
    have CP := Hid.mk (fun w h => l5Put_ok a n ca xs ⟨1, 0, 0, 0⟩ w h hn (by omega) hca)
    rw [plP]
    simp only [List.length_nil] at hm
    subst hm
    generalize put xs ⟨1, 0, 0, 0⟩ = P at *
    obtain ⟨kc, kk, ls⟩ := P
    simp only at *
    obtain ⟨kl, hkl⟩ : ∃ m, ls.length = m := ⟨_, rfl⟩
    rw [hkl] at CP ⊢
    replace hkl := Hid.mk hkl
    go_enter Try.func94, Try.ntmps94
    have B := Below.refl w.heap.size w
    replace ha := ha.kept (belowA w (.cells #[.int .i64 0, .int .i64 0, .slice none 0 0] 33))
    replace B := thenB B (belowA w (.cells #[.int .i64 0, .int .i64 0, .slice none 0 0] 33))
    have VR := V.new w [.int .i64 0, .int .i64 0, .slice none 0 0] 33
    obtain ⟨s_VR, f_VR, z_VR⟩ := VR.open
    have Bo := B
    go_wp2_with fail
    refine (CP.out _ ha).mono ?_
    rintro e w1 ⟨c4, d4, rfl, O, b1⟩
    clear s_VR f_VR z_VR
    have S1 := b1.size
    simp only [World.size_alloc] at S1
    replace VR := VR.kept b1
    replace ha := ha.kept b1
    replace B := thenB B b1
    clear b1
    obtain ⟨s_VR, f_VR, z_VR⟩ := VR.open
    have Bo := B
    have OL := Hid.mk (fun b hb => (O.lt b hb).1)
    clear s_VR f_VR z_VR
    have VF := Hid.mk (VR.filled [.int .i64 kc, .int .i64 kk, .slice c4 kl d4] rfl)
    have HT := Hid.mk VR.there
    have BR := belowCells B (show w.heap.size ≤ w.heap.size by (first | omega | (simp; done) | (simp; omega))) 0 [.int .i64 kc, .int .i64 kk, .slice c4 kl d4]
    replace BR := Hid.mk BR
    have HO := Hid.mk ((O.mono (show w.heap.size ≤ _ by first | omega | (simp; done) | (simp; omega))).apart (B := w.heap.size) (by intro b hb; have := OL.out b hb; first | omega | (simp at this; omega)) 0 [.int .i64 kc, .int .i64 kk, .slice c4 kl d4])
    obtain ⟨s_VR, f_VR, z_VR⟩ := VR.open
    go_wp2_with (refine wpList_store_mid rfl 33 _ _ rfl (w.heap.size) 0 #[.int .i64 kc, .int .i64 kk, .slice c4 kl d4] rfl rfl HT.out (by kernel_rfl) (by kernel_rfl) ?_)
    refine bodyPost_ret (v := .agg #[.int .i64 kc, .int .i64 kk, .slice c4 kl d4]) (results_row Try.results94 _ _ (w.heap.size) [.int .i64 kc, .int .i64 kk, .slice c4 kl d4] _ rfl VF.out Try.underlying33 rfl (by kernel_rfl)) rfl ⟨c4, d4, rfl, HO.out, BR.out⟩
  | cons x zs ih =>
    intro xs a n ca c m d w ha hn hx hca hR hm hd
    have q1 := build_tr12
    have q2 := build_pr
    cases zs with
    | nil =>
      rw [plP]
      simp only [List.length_cons, List.length_nil] at hm
      subst hm
      have CC := Hid.mk (fun w h => l5Copy_ok a n ca xs w h hn (by omega) hca)
      replace hn := Hid.mk hn
      rcases hR with hR | ⟨b1, o1, rfl, hcz⟩
      · cases hR
      have p0 := hcz 0 (by simp)
      simp only [Nat.add_zero] at p0
      replace p0 : w.cell? ⟨b1, o1, none⟩ = some (.int .i64 x) := p0
      have hbl := World.block_lt_of_cell? _ _ p0
      simp only at hbl
      clear hcz
      go_enter Try.func94, Try.ntmps94
      have B := Below.refl w.heap.size w
      replace ha := ha.kept (belowA w (.cells #[.int .i64 0, .int .i64 0, .slice none 0 0] 33))
      replace B := thenB B (belowA w (.cells #[.int .i64 0, .int .i64 0, .slice none 0 0] 33))
      have VR := V.new w [.int .i64 0, .int .i64 0, .slice none 0 0] 33
      obtain ⟨s_VR, f_VR, z_VR⟩ := VR.open
      have Bo := B
      have pz := ((belowA w (.cells #[.int .i64 0, .int .i64 0, .slice none 0 0] 33)).cell (p := ⟨b1, o1, none⟩) hbl).trans p0
      clear s_VR f_VR z_VR
      have K : ∀ w' : World, Below (w.alloc (.cells #[.int .i64 0, .int .i64 0, .slice none 0 0] 33)).heap.size (w.alloc (.cells #[.int .i64 0, .int .i64 0, .slice none 0 0] 33)) w' → (w'.cell? ⟨b1, o1, none⟩ = some (.int .i64 x)) := fun w' h => ((bcell h).1 _ _ (by simp only [World.size_alloc]; omega)).trans pz
      have K := Hid.mk K
      obtain ⟨s_VR, f_VR, z_VR⟩ := VR.open
      go_wp2_with fail
      clear s_VR f_VR z_VR
      refine wp_region_held_drew (S := (fun w' => w'.cell? ⟨b1, o1, none⟩ = some (.int .i64 x))) (by kernel_rfl) (K.out _ (Below.refl _ _).drew) (fun hHeld => ?_)
      refine wpAnyH_take (i := 0) (oi := _) (v := ?vg21u1) rfl (by kernel_rfl) (by kernel_rfl) (by kernel_rfl) (fun _ _ _ h => h) (Or.inl ⟨by rfl, ?hyg21u1⟩) hHeld ?restg21u1
      case hyg21u1 => (intro w hSw; (try dsimp only at hSw); go_simp; first | done | with_reducible rfl)
      try simp only [Act.put, List.getElem_toArray, List.getElem_cons_zero, List.setIfInBounds_toArray, List.set_cons_zero, List.set_cons_succ]
      refine wpAnyH_take (i := 1) (oi := _) (v := ?vg21u2) rfl (by kernel_rfl) (by kernel_rfl) (by kernel_rfl) (fun _ _ _ h => h) (Or.inl ⟨by rfl, ?hyg21u2⟩) hHeld ?restg21u2
      case hyg21u2 => (intro w hSw; (try dsimp only at hSw); go_simp; first | done | with_reducible rfl)
      try simp only [Act.put, List.getElem_toArray, List.getElem_cons_zero, List.getElem_cons_succ, List.setIfInBounds_toArray, List.set_cons_zero, List.set_cons_succ]
      refine wpAnyH_take (i := 2) (oi := _) (v := ?vg21u3) rfl (by kernel_rfl) (by kernel_rfl) (by kernel_rfl) (fun _ _ _ h => h) (Or.inl ⟨by rfl, ?hyg21u3⟩) hHeld ?restg21u3
      case hyg21u3 => (intro w hSw; (try dsimp only at hSw); go_simp; first | done | with_reducible rfl)
      try simp only [Act.put, List.getElem_toArray, List.getElem_cons_zero, List.getElem_cons_succ, List.setIfInBounds_toArray, List.set_cons_zero, List.set_cons_succ]
      refine wpAnyH_take (i := 3) (oi := _) (v := ?vg21u4) rfl (by kernel_rfl) (by kernel_rfl) (by kernel_rfl) (fun _ _ _ h => h) (Or.inl ⟨by rfl, ?hyg21u4⟩) hHeld ?restg21u4
      case hyg21u4 => (intro w hSw; (try dsimp only at hSw); go_simp; first | done | with_reducible rfl)
      try simp only [Act.put, List.getElem_toArray, List.getElem_cons_zero, List.getElem_cons_succ, List.setIfInBounds_toArray, List.set_cons_zero, List.set_cons_succ]
      refine wpAnyH_ready (rs := [4]) (by kernel_rfl) (by simp) ?_
      refine AllReadyH.cons (o := _) rfl (fun K0 hK0 => ?_) AllReadyH.nil
      go_simp
      go_at_call 76
      refine (CC.out _ (ha.kept (Below.refl _ _).drew)).mono ?_
      rintro e wg21v5 ⟨c4, d4, rfl, O, bg21v5⟩
      refine hK0.out _ _ (K.out _ (thenB (Below.refl _ _).drew bg21v5)) (fun hHeld => ?_)
      clear hK0 K0
      try simp only [Act.put, List.getElem_toArray, List.getElem_cons_zero, List.getElem_cons_succ, List.setIfInBounds_toArray, List.set_cons_zero, List.set_cons_succ]
      refine wpAnyH_take (i := 5) (oi := _) (v := ?vg21u6) rfl (by kernel_rfl) (by kernel_rfl) (by kernel_rfl) (fun _ _ _ h => h) (Or.inl ⟨by rfl, ?hyg21u6⟩) hHeld ?restg21u6
      case hyg21u6 => (intro w hSw; (try dsimp only at hSw); go_simp; first | done | with_reducible rfl)
      try simp only [Act.put, List.getElem_toArray, List.getElem_cons_zero, List.getElem_cons_succ, List.setIfInBounds_toArray, List.set_cons_zero, List.set_cons_succ]
      have bacc : Below (w.alloc (.cells #[.int .i64 0, .int .i64 0, .slice none 0 0] 33)).heap.size (w.alloc (.cells #[.int .i64 0, .int .i64 0, .slice none 0 0] 33)) _ := (thenB (Below.refl _ _).drew bg21v5)
      replace VR := VR.kept bacc
      replace ha := ha.kept bacc
      replace B := thenB B bacc
      have Sz21 := bacc.size
      simp only [World.size_alloc] at Sz21
      have A_O := (O.mono (show w.heap.size ≤ _ by first | omega | (simp; done) | (simp; omega))).apart (B := w.heap.size) (by intro b hb; have := (O.lt b hb).1; first | omega | (simp at this; omega)) 0 [.int .i64 0, .int .i64 x, .slice c4 n d4]
      have HT := Hid.mk VR.there
      have VF := VR.filled [.int .i64 0, .int .i64 x, .slice c4 n d4] rfl
      have KA : (World.setCells wg21v5 (w.heap.size) 0 [.int .i64 0, .int .i64 x, .slice c4 n d4]).cell? ⟨b1, o1, none⟩ = some (.int .i64 x) := (cells_far (by omega) 0 [.int .i64 0, .int .i64 x, .slice c4 n d4]).trans (((bcell bacc).1 _ _ (by simp only [World.size_alloc]; omega)).trans pz)
      have BR := belowCells B (show w.heap.size ≤ w.heap.size by (first | omega | (simp; done) | (simp; omega))) 0 [.int .i64 0, .int .i64 x, .slice c4 n d4]
      obtain ⟨w6, hw6⟩ : ∃ w6, World.setCells wg21v5 (w.heap.size) 0 [.int .i64 0, .int .i64 x, .slice c4 n d4] = w6 := ⟨_, rfl⟩
      rw [hw6] at VF BR A_O KA
      replace hw6 := Hid.mk hw6
      replace VF := Hid.mk VF
      replace KA := Hid.mk KA
      replace BR := Hid.mk BR
      replace A_O := Hid.mk A_O
      refine wpAnyH_ready (rs := [6]) (by kernel_rfl) (by simp) ?_
      refine AllReadyH.cons (o := _) rfl (fun K0 hK0 => ?_) AllReadyH.nil
      rw [if_pos (by rfl)]
      refine wp_stroke w6 33 _ _ rfl (w.heap.size) 0 #[.int .i64 0, .int .i64 x, .slice c4 n d4] rfl rfl HT.out (by kernel_rfl) (by kernel_rfl) hw6.out ?_
      refine hK0.out _ _ KA.out (fun hHeld => ?_)
      clear hK0 K0 hHeld KA HT
      refine wpAnyH_done (by kernel_rfl) ?_ _
      go_wp2
      refine bodyPost_ret (v := .agg #[.int .i64 0, .int .i64 x, .slice c4 n d4]) (results_row Try.results94 _ _ (w.heap.size) [.int .i64 0, .int .i64 x, .slice c4 n d4] _ rfl VF.out Try.underlying33 rfl (by kernel_rfl)) rfl ⟨c4, d4, by rw [hn.out], A_O.out, BR.out⟩
    | cons y r =>
      obtain ⟨l, hl⟩ : ∃ l, r.length = l := ⟨_, rfl⟩
      have hm2 : m = l + 2 := by simp only [List.length_cons] at hm; omega
      subst hm2
      rcases hR with hR | ⟨b1, o1, rfl, hcz⟩
      · cases hR
      have hRx : Rd .i64 w (some ⟨b1, o1, none⟩) (x :: y :: r) := .inr ⟨b1, o1, rfl, hcz⟩
      have hR1 := hRx.tail
      replace hRx := Hid.mk hRx
      have p0 := hcz 0 (by simp)
      have hbl := Hid.mk (World.block_lt_of_cell? _ _ p0)
      clear hcz p0
      have hd1 : ¬ d = 1 := by omega
      have hd2 : (1 : Nat) ≤ d := by omega
      have hd3 : 1 ≤ l + 2 := by omega
      have hl0 : (0 : Int) < (l : Int) + 2 := by omega
      have hpl0 := plP_len (xs := xs) (by omega) (y :: r)
      have IH := Hid.mk (fun w h h' => ih xs a n ca (some ⟨b1, o1 + 1, none⟩) (l + 2 - 1) (d - 1) w h hn hx hca h' (by simp only [List.length_cons]; omega) (by omega))
      rw [plP_two]
      generalize plP xs (y :: r) = Q at *
      obtain ⟨pc, pk, ps⟩ := Q
      simp only at *
      obtain ⟨pl, hpl⟩ : ∃ m, ps.length = m := ⟨_, rfl⟩
      rw [hpl] at IH hpl0
      clear ih hm
      by_cases hpc : pc = 0
      · skip
        subst hpc
        rw [if_pos rfl]
        have CP := Hid.mk (fun w c d h hc => l5Put_ok c pl d ps ⟨3, x, pk, 0⟩ w h hpl (by omega) hc)
        generalize put ps ⟨3, x, pk, 0⟩ = P at *
        obtain ⟨kc, kk, ls⟩ := P
        simp only at *
        obtain ⟨kl, hkl⟩ : ∃ m, ls.length = m := ⟨_, rfl⟩
        rw [hkl] at CP ⊢
        replace hkl := Hid.mk hkl
        go_enter Try.func94, Try.ntmps94
        have B := Below.refl w.heap.size w
        replace ha := ha.kept (belowA w (.cells #[.int .i64 0, .int .i64 0, .slice none 0 0] 33))
        replace hR1 := hR1.kept (belowA w (.cells #[.int .i64 0, .int .i64 0, .slice none 0 0] 33))
        replace B := thenB B (belowA w (.cells #[.int .i64 0, .int .i64 0, .slice none 0 0] 33))
        have VR := V.new w [.int .i64 0, .int .i64 0, .slice none 0 0] 33
        obtain ⟨s_VR, f_VR, z_VR⟩ := VR.open
        have Bo := B
        go_wp2_with fail
        refine (IH.out _ ha hR1).mono ?_
        rintro e w41 ⟨c3, d3, rfl, O3, b41⟩
        clear s_VR f_VR z_VR
        have S41 := b41.size
        simp only [World.size_alloc] at S41
        replace VR := VR.kept b41
        replace ha := ha.kept b41
        replace hR1 := hR1.kept b41
        replace B := thenB B b41
        clear b41
        obtain ⟨s_VR, f_VR, z_VR⟩ := VR.open
        have Bo := B
        replace VR := VR.kept (belowA w41 (.cells #[.int .i64 0, .int .i64 pk, .slice c3 pl d3] 33))
        replace ha := ha.kept (belowA w41 (.cells #[.int .i64 0, .int .i64 pk, .slice c3 pl d3] 33))
        replace hR1 := hR1.kept (belowA w41 (.cells #[.int .i64 0, .int .i64 pk, .slice c3 pl d3] 33))
        replace O3 := O3.kept (belowA w41 (.cells #[.int .i64 0, .int .i64 pk, .slice c3 pl d3] 33))
        replace B := thenB B (belowA w41 (.cells #[.int .i64 0, .int .i64 pk, .slice c3 pl d3] 33))
        have VY := V.new w41 [.int .i64 0, .int .i64 pk, .slice c3 pl d3] 33
        clear s_VR f_VR z_VR
        obtain ⟨s_VR, f_VR, z_VR⟩ := VR.open
        obtain ⟨s_VY, f_VY, z_VY⟩ := VY.open
        have Bo := B
        have pz := (hRx.out.kept B)
        rcases pz with pz | ⟨b2, o2, e2, pz⟩
        · cases pz
        simp only [Option.some.injEq, Addr.mk.injEq, and_true] at e2
        obtain ⟨rfl, rfl⟩ := e2
        have pz0 := pz 0 (by simp)
        simp only [Nat.add_zero] at pz0
        replace pz0 : World.cell? (w41.alloc (.cells #[.int .i64 0, .int .i64 pk, .slice c3 pl d3] 33)) ⟨b1, o1, none⟩ = some (.int .i64 x) := pz0
        clear pz
        have hbl2 := World.block_lt_of_cell? _ _ pz0
        have hnc := ownTerm_nocap O3
        replace hnc := Hid.mk hnc
        have hbw := hbl.out
        have hy0 := VY.1
        clear s_VR f_VR z_VR s_VY f_VY z_VY
        have K : ∀ w' : World, Below (w41.alloc (.cells #[.int .i64 0, .int .i64 pk, .slice c3 pl d3] 33)).heap.size (w41.alloc (.cells #[.int .i64 0, .int .i64 pk, .slice c3 pl d3] 33)) w' → (w'.cell? ⟨w41.heap.size, 0, none⟩ = some (.int .i64 0) ∧ w'.cell? ⟨w41.heap.size, 1, none⟩ = some (.int .i64 pk) ∧ w'.cell? ⟨w41.heap.size, 2, none⟩ = some (.slice c3 pl d3) ∧ w'.cell? ⟨b1, o1, none⟩ = some (.int .i64 x)) := fun w' h => ⟨(VY.kept h).2.1 0 (by simp), (VY.kept h).2.1 1 (by simp), (VY.kept h).2.1 2 (by simp), ((bcell h).1 _ _ hbl2).trans pz0⟩
        have K := Hid.mk K
        obtain ⟨s_VR, f_VR, z_VR⟩ := VR.open
        obtain ⟨s_VY, f_VY, z_VY⟩ := VY.open
        go_wp2_with fail
        clear s_VR f_VR z_VR s_VY f_VY z_VY
        refine wp_region_held_drew (S := (fun w' => w'.cell? ⟨w41.heap.size, 0, none⟩ = some (.int .i64 0) ∧ w'.cell? ⟨w41.heap.size, 1, none⟩ = some (.int .i64 pk) ∧ w'.cell? ⟨w41.heap.size, 2, none⟩ = some (.slice c3 pl d3) ∧ w'.cell? ⟨b1, o1, none⟩ = some (.int .i64 x))) (by kernel_rfl) (K.out _ (Below.refl _ _).drew) (fun hHeld => ?_)
        refine wpAnyH_take (i := 0) (oi := _) (v := ?vg41u1) rfl (by kernel_rfl) (by kernel_rfl) (by kernel_rfl) (fun _ _ _ h => h) (Or.inl ⟨by rfl, ?hyg41u1⟩) hHeld ?restg41u1
        case hyg41u1 => (intro w hSw; (try dsimp only at hSw); go_simp; first | done | with_reducible rfl)
        try simp only [Act.put, List.getElem_toArray, List.getElem_cons_zero, List.setIfInBounds_toArray, List.set_cons_zero, List.set_cons_succ]
        refine wpAnyH_take (i := 1) (oi := _) (v := ?vg41u2) rfl (by kernel_rfl) (by kernel_rfl) (by kernel_rfl) (fun _ _ _ h => h) (Or.inl ⟨by rfl, ?hyg41u2⟩) hHeld ?restg41u2
        case hyg41u2 => (intro w hSw; (try dsimp only at hSw); go_simp; first | done | with_reducible rfl)
        try simp only [Act.put, List.getElem_toArray, List.getElem_cons_zero, List.getElem_cons_succ, List.setIfInBounds_toArray, List.set_cons_zero, List.set_cons_succ]
        refine wpAnyH_take (i := 2) (oi := _) (v := ?vg41u3) rfl (by kernel_rfl) (by kernel_rfl) (by kernel_rfl) (fun _ _ _ h => h) (Or.inl ⟨by rfl, ?hyg41u3⟩) hHeld ?restg41u3
        case hyg41u3 => (intro w hSw; (try dsimp only at hSw); go_simp; first | done | with_reducible rfl)
        try simp only [Act.put, List.getElem_toArray, List.getElem_cons_zero, List.getElem_cons_succ, List.setIfInBounds_toArray, List.set_cons_zero, List.set_cons_succ]
        refine wpAnyH_take (i := 3) (oi := _) (v := ?vg41u4) rfl (by kernel_rfl) (by kernel_rfl) (by kernel_rfl) (fun _ _ _ h => h) (Or.inl ⟨by rfl, ?hyg41u4⟩) hHeld ?restg41u4
        case hyg41u4 => (intro w hSw; (try dsimp only at hSw); go_simp; first | done | with_reducible rfl)
        try simp only [Act.put, List.getElem_toArray, List.getElem_cons_zero, List.getElem_cons_succ, List.setIfInBounds_toArray, List.set_cons_zero, List.set_cons_succ]
        refine wpAnyH_take (i := 4) (oi := _) (v := ?vg41u5) rfl (by kernel_rfl) (by kernel_rfl) (by kernel_rfl) (fun _ _ _ h => h) (Or.inl ⟨by rfl, ?hyg41u5⟩) hHeld ?restg41u5
        case hyg41u5 => (intro w hSw; (try dsimp only at hSw); go_simp; first | done | with_reducible rfl)
        try simp only [Act.put, List.getElem_toArray, List.getElem_cons_zero, List.getElem_cons_succ, List.setIfInBounds_toArray, List.set_cons_zero, List.set_cons_succ]
        refine wpAnyH_take (i := 5) (oi := _) (v := ?vg41u6) rfl (by kernel_rfl) (by kernel_rfl) (by kernel_rfl) (fun _ _ _ h => h) (Or.inl ⟨by rfl, ?hyg41u6⟩) hHeld ?restg41u6
        case hyg41u6 => (intro w hSw; (try dsimp only at hSw); go_simp; first | done | with_reducible rfl)
        try simp only [Act.put, List.getElem_toArray, List.getElem_cons_zero, List.getElem_cons_succ, List.setIfInBounds_toArray, List.set_cons_zero, List.set_cons_succ]
        refine wpAnyH_take (i := 6) (oi := _) (v := ?vg41u7) rfl (by kernel_rfl) (by kernel_rfl) (by kernel_rfl) (fun _ _ _ h => h) (Or.inl ⟨by rfl, ?hyg41u7⟩) hHeld ?restg41u7
        case hyg41u7 => (intro w hSw; (try dsimp only at hSw); go_simp; first | done | with_reducible rfl)
        try simp only [Act.put, List.getElem_toArray, List.getElem_cons_zero, List.getElem_cons_succ, List.setIfInBounds_toArray, List.set_cons_zero, List.set_cons_succ]
        refine wpAnyH_take (i := 7) (oi := _) (v := ?vg41u8) rfl (by kernel_rfl) (by kernel_rfl) (by kernel_rfl) (fun _ _ _ h => h) (Or.inl ⟨by rfl, ?hyg41u8⟩) hHeld ?restg41u8
        case hyg41u8 => (intro w hSw; (try dsimp only at hSw); go_simp; first | done | with_reducible rfl)
        try simp only [Act.put, List.getElem_toArray, List.getElem_cons_zero, List.getElem_cons_succ, List.setIfInBounds_toArray, List.set_cons_zero, List.set_cons_succ]
        refine wpAnyH_ready (rs := [8]) (by kernel_rfl) (by simp) ?_
        refine AllReadyH.cons (o := _) rfl (fun K0 hK0 => ?_) AllReadyH.nil
        go_simp
        go_at_call 81
        refine (CP.out _ _ _ (O3.rd.kept (Below.refl _ _).drew) hnc.out).mono ?_
        rintro e wg41v9 ⟨c4, d4, rfl, O, bg41v9⟩
        refine hK0.out _ _ (K.out _ (thenB (Below.refl _ _).drew bg41v9)) (fun hHeld => ?_)
        clear hK0 K0
        try simp only [Act.put, List.getElem_toArray, List.getElem_cons_zero, List.getElem_cons_succ, List.setIfInBounds_toArray, List.set_cons_zero, List.set_cons_succ]
        have bacc : Below (w41.alloc (.cells #[.int .i64 0, .int .i64 pk, .slice c3 pl d3] 33)).heap.size (w41.alloc (.cells #[.int .i64 0, .int .i64 pk, .slice c3 pl d3] 33)) _ := (thenB (Below.refl _ _).drew bg41v9)
        replace VR := VR.kept bacc
        replace VY := VY.kept bacc
        replace ha := ha.kept bacc
        replace hR1 := hR1.kept bacc
        replace O3 := O3.kept bacc
        replace B := thenB B bacc
        have Sz41 := bacc.size
        simp only [World.size_alloc] at Sz41
        have A_O := (O.mono (show w.heap.size ≤ _ by first | omega | (simp; done) | (simp; omega))).apart (B := w.heap.size) (by intro b hb; have := (O.lt b hb).1; first | omega | (simp at this; omega)) 0 [.int .i64 kc, .int .i64 kk, .slice c4 kl d4]
        have HT := Hid.mk VR.there
        have VF := VR.filled [.int .i64 kc, .int .i64 kk, .slice c4 kl d4] rfl
        have KA : (World.setCells wg41v9 (w.heap.size) 0 [.int .i64 kc, .int .i64 kk, .slice c4 kl d4]).cell? ⟨w41.heap.size, 0, none⟩ = some (.int .i64 0) ∧ (World.setCells wg41v9 (w.heap.size) 0 [.int .i64 kc, .int .i64 kk, .slice c4 kl d4]).cell? ⟨w41.heap.size, 1, none⟩ = some (.int .i64 pk) ∧ (World.setCells wg41v9 (w.heap.size) 0 [.int .i64 kc, .int .i64 kk, .slice c4 kl d4]).cell? ⟨w41.heap.size, 2, none⟩ = some (.slice c3 pl d3) ∧ (World.setCells wg41v9 (w.heap.size) 0 [.int .i64 kc, .int .i64 kk, .slice c4 kl d4]).cell? ⟨b1, o1, none⟩ = some (.int .i64 x) := ⟨(VY.apart (B := w.heap.size) (by first | omega | (simp; omega)) 0 [.int .i64 kc, .int .i64 kk, .slice c4 kl d4]).2.1 0 (by simp), (VY.apart (B := w.heap.size) (by first | omega | (simp; omega)) 0 [.int .i64 kc, .int .i64 kk, .slice c4 kl d4]).2.1 1 (by simp), (VY.apart (B := w.heap.size) (by first | omega | (simp; omega)) 0 [.int .i64 kc, .int .i64 kk, .slice c4 kl d4]).2.1 2 (by simp), (cells_far (by omega) 0 [.int .i64 kc, .int .i64 kk, .slice c4 kl d4]).trans (((bcell bacc).1 _ _ hbl2).trans pz0)⟩
        have BR := belowCells B (show w.heap.size ≤ w.heap.size by (first | omega | (simp; done) | (simp; omega))) 0 [.int .i64 kc, .int .i64 kk, .slice c4 kl d4]
        obtain ⟨w6, hw6⟩ : ∃ w6, World.setCells wg41v9 (w.heap.size) 0 [.int .i64 kc, .int .i64 kk, .slice c4 kl d4] = w6 := ⟨_, rfl⟩
        rw [hw6] at VF BR A_O KA
        replace hw6 := Hid.mk hw6
        replace VF := Hid.mk VF
        replace KA := Hid.mk KA
        replace BR := Hid.mk BR
        replace A_O := Hid.mk A_O
        refine wpAnyH_ready (rs := [9]) (by kernel_rfl) (by simp) ?_
        refine AllReadyH.cons (o := _) rfl (fun K0 hK0 => ?_) AllReadyH.nil
        rw [if_pos (by rfl)]
        refine wp_stroke w6 33 _ _ rfl (w.heap.size) 0 #[.int .i64 kc, .int .i64 kk, .slice c4 kl d4] rfl rfl HT.out (by kernel_rfl) (by kernel_rfl) hw6.out ?_
        refine hK0.out _ _ KA.out (fun hHeld => ?_)
        clear hK0 K0 hHeld KA HT
        refine wpAnyH_done (by kernel_rfl) ?_ _
        go_wp2
        refine bodyPost_ret (v := .agg #[.int .i64 kc, .int .i64 kk, .slice c4 kl d4]) (results_row Try.results94 _ _ (w.heap.size) [.int .i64 kc, .int .i64 kk, .slice c4 kl d4] _ rfl VF.out Try.underlying33 rfl (by kernel_rfl)) rfl ⟨c4, d4, rfl, A_O.out, BR.out⟩
      · have hpc2 : (pc != 0) = true := by simp [hpc]
        rw [if_neg hpc]
        clear hpc
        go_enter Try.func94, Try.ntmps94
        have B := Below.refl w.heap.size w
        replace ha := ha.kept (belowA w (.cells #[.int .i64 0, .int .i64 0, .slice none 0 0] 33))
        replace hR1 := hR1.kept (belowA w (.cells #[.int .i64 0, .int .i64 0, .slice none 0 0] 33))
        replace B := thenB B (belowA w (.cells #[.int .i64 0, .int .i64 0, .slice none 0 0] 33))
        have VR := V.new w [.int .i64 0, .int .i64 0, .slice none 0 0] 33
        obtain ⟨s_VR, f_VR, z_VR⟩ := VR.open
        have Bo := B
        go_wp2_with fail
        refine (IH.out _ ha hR1).mono ?_
        rintro e w61 ⟨c3, d3, rfl, O3, b61⟩
        clear s_VR f_VR z_VR
        have S61 := b61.size
        simp only [World.size_alloc] at S61
        replace VR := VR.kept b61
        replace ha := ha.kept b61
        replace hR1 := hR1.kept b61
        replace B := thenB B b61
        clear b61
        obtain ⟨s_VR, f_VR, z_VR⟩ := VR.open
        have Bo := B
        replace VR := VR.kept (belowA w61 (.cells #[.int .i64 pc, .int .i64 pk, .slice c3 pl d3] 33))
        replace ha := ha.kept (belowA w61 (.cells #[.int .i64 pc, .int .i64 pk, .slice c3 pl d3] 33))
        replace hR1 := hR1.kept (belowA w61 (.cells #[.int .i64 pc, .int .i64 pk, .slice c3 pl d3] 33))
        replace O3 := O3.kept (belowA w61 (.cells #[.int .i64 pc, .int .i64 pk, .slice c3 pl d3] 33))
        replace B := thenB B (belowA w61 (.cells #[.int .i64 pc, .int .i64 pk, .slice c3 pl d3] 33))
        have VY := V.new w61 [.int .i64 pc, .int .i64 pk, .slice c3 pl d3] 33
        clear s_VR f_VR z_VR
        obtain ⟨s_VR, f_VR, z_VR⟩ := VR.open
        obtain ⟨s_VY, f_VY, z_VY⟩ := VY.open
        have Bo := B
        have OL := Hid.mk (fun b hb => (O3.lt b hb).1)
        clear s_VR f_VR z_VR s_VY f_VY z_VY
        have VF := Hid.mk (VR.filled [.int .i64 pc, .int .i64 pk, .slice c3 pl d3] rfl)
        have HT := Hid.mk VR.there
        have BR := belowCells B (show w.heap.size ≤ w.heap.size by (first | omega | (simp; done) | (simp; omega))) 0 [.int .i64 pc, .int .i64 pk, .slice c3 pl d3]
        replace BR := Hid.mk BR
        have HO := Hid.mk ((O3.mono (show w.heap.size ≤ _ by first | omega | (simp; done) | (simp; omega))).apart (B := w.heap.size) (by intro b hb; have := OL.out b hb; first | omega | (simp at this; omega)) 0 [.int .i64 pc, .int .i64 pk, .slice c3 pl d3])
        obtain ⟨s_VR, f_VR, z_VR⟩ := VR.open
        obtain ⟨s_VY, f_VY, z_VY⟩ := VY.open
        go_wp2_with (refine wpList_store_mid rfl 33 _ _ rfl (w.heap.size) 0 #[.int .i64 pc, .int .i64 pk, .slice c3 pl d3] rfl rfl HT.out (by kernel_rfl) (by kernel_rfl) ?_)
        refine bodyPost_ret (v := .agg #[.int .i64 pc, .int .i64 pk, .slice c3 pl d3]) (results_row Try.results94 _ _ (w.heap.size) [.int .i64 pc, .int .i64 pk, .slice c3 pl d3] _ rfl VF.out Try.underlying33 rfl (by kernel_rfl)) rfl ⟨c3, d3, by rw [hpl], HO.out, BR.out⟩

set_option maxRecDepth 20000 in
set_option maxHeartbeats 8000000 in
theorem specPutList_ok (a : Option Addr) (n ca : Nat) (xs : List T4) (c : Option Addr) (m d : Nat) (zs : List Int) (w : World) (ha : RdTerm w a xs) (hn : xs.length = n) (hx : n ≤ 1048576) (hca : n ≤ ca) (hcn : a = none → ca = 0) (hR : Rd .i64 w c zs) (hm : zs.length = m) (hmd : m ≤ d) (hmx : m ≤ 1048576) :
    Calls Try.prog 29 #[.slice a n ca, .slice c m d] w fun e w' => ∃ c4 d4, e = .returned (.agg #[.int .i64 (plT xs zs).c, .int .i64 (plT xs zs).k, .slice c4 (plT xs zs).l.length d4]) ∧ OwnTerm w' w.heap.size c4 d4 (plT xs zs).l ∧ Below w.heap.size w w' := by
  have q1 := build_tr0'
  have CT := Hid.mk (fun w h => specTermsFault_ok a n ca xs w h hn (by unfold maxLen; omega) hca)
  rcases plT_ways xs zs with ⟨h1, hr⟩ | ⟨h1, h2, hr⟩ | ⟨h1, h2, hr⟩
  · have h2 : (tfC xs != 0) = true := by simp [h1]
    rw [hr]
    clear hr h1
    generalize tfC xs = kk at *
    go_enter Try.func29, Try.ntmps29
    have B := Below.refl w.heap.size w
    replace ha := ha.kept (belowA w (.cells #[.int .i64 0, .int .i64 0, .slice none 0 0] 33))
    replace B := thenB B (belowA w (.cells #[.int .i64 0, .int .i64 0, .slice none 0 0] 33))
    have VR := V.new w [.int .i64 0, .int .i64 0, .slice none 0 0] 33
    obtain ⟨s_VR, f_VR, z_VR⟩ := VR.open
    have Bo := B
    go_wp2_with fail
    refine (CT.out _ ha).mono ?_
    rintro e w81 ⟨rfl, b81⟩
    clear s_VR f_VR z_VR
    have S81 := b81.size
    simp only [World.size_alloc] at S81
    replace VR := VR.kept b81
    replace ha := ha.kept b81
    replace B := thenB B b81
    clear b81
    obtain ⟨s_VR, f_VR, z_VR⟩ := VR.open
    have Bo := B
    clear s_VR f_VR z_VR
    have VF := Hid.mk (VR.filled [.int .i64 kk, .int .i64 0, .slice none 0 0] rfl)
    have HT := Hid.mk VR.there
    have BR := belowCells B (show w.heap.size ≤ w.heap.size by (first | omega | (simp; done) | (simp; omega))) 0 [.int .i64 kk, .int .i64 0, .slice none 0 0]
    replace BR := Hid.mk BR
    obtain ⟨s_VR, f_VR, z_VR⟩ := VR.open
    go_wp2_with (refine wpList_store_mid rfl 33 _ _ rfl (w.heap.size) 0 #[.int .i64 kk, .int .i64 0, .slice none 0 0] rfl rfl HT.out (by kernel_rfl) (by kernel_rfl) ?_)
    refine bodyPost_ret (v := .agg #[.int .i64 kk, .int .i64 0, .slice none 0 0]) (results_row Try.results29 _ _ (w.heap.size) [.int .i64 kk, .int .i64 0, .slice none 0 0] _ rfl VF.out Try.underlying33 rfl (by kernel_rfl)) rfl ⟨none, 0, rfl, OwnTerm.none, BR.out⟩
  · rw [hr]
    rw [h1] at CT
    have hal := h2
    rw [hn] at hal
    clear hr h1 h2
    go_enter Try.func29, Try.ntmps29
    have B := Below.refl w.heap.size w
    replace ha := ha.kept (belowA w (.cells #[.int .i64 0, .int .i64 0, .slice none 0 0] 33))
    replace hR := hR.kept (belowA w (.cells #[.int .i64 0, .int .i64 0, .slice none 0 0] 33))
    replace B := thenB B (belowA w (.cells #[.int .i64 0, .int .i64 0, .slice none 0 0] 33))
    have VR := V.new w [.int .i64 0, .int .i64 0, .slice none 0 0] 33
    obtain ⟨s_VR, f_VR, z_VR⟩ := VR.open
    have Bo := B
    go_wp2_with fail
    refine (CT.out _ ha).mono ?_
    rintro e w101 ⟨rfl, b101⟩
    clear s_VR f_VR z_VR
    have S101 := b101.size
    simp only [World.size_alloc] at S101
    replace VR := VR.kept b101
    replace ha := ha.kept b101
    replace hR := hR.kept b101
    replace B := thenB B b101
    clear b101
    obtain ⟨s_VR, f_VR, z_VR⟩ := VR.open
    have Bo := B
    have VR1 := Hid.mk VR
    have B1 := Hid.mk B
    have RA := Hid.mk ha
    have RL := Hid.mk hR
    have HAL := Hid.mk hal
    clear ha hR hal VR B Bo
    clear s_VR f_VR z_VR
    go_wp2
    go_loopw [6] (fun i wr => ∃ k : Nat, k ≤ m ∧ i = .int .i64 k ∧ Hid ((zs.drop k).all (fun z => btw z 0 ((n : Int) - 1)) = false) ∧ wr = w101) (fun i _ => m - (intOf i).toNat)
    case atStart => exact ⟨0, Nat.zero_le _, rfl, HAL, rfl⟩
    case round =>
      obtain ⟨k, hk, rfl, hdr, hwr⟩ := hrel
      subst hwr
      by_cases hlt : k < m
      · obtain ⟨z, hz⟩ : ∃ z, zs.getD k 0 = z := ⟨_, rfl⟩
        have hk1 : (k : Int) < (m : Int) := by omega
        have hs := hdr.out
        rw [List.drop_eq_getElem_cons (by omega), List.all_cons, show zs[k]'(by omega) = z by rw [← hz]; simp [List.getD, show k < zs.length by omega]] at hs
        rcases RL.out with h0 | ⟨b1, o1, rfl, hca2⟩
        · rw [h0] at hm; simp at hm; omega
        have p0 := hca2 k (by omega)
        rw [hz] at p0
        clear hca2 hz
        have CA := Hid.mk (fun w => l5At_ok a n ca z w (by unfold maxLen; omega))
        cases hg : btw z 0 ((n : Int) - 1)
        · rw [hg] at CA
          clear hs hg
          have VR := VR1.out
          have B := B1.out
          obtain ⟨s_VR, f_VR, z_VR⟩ := VR.open
          have Bo := B
          go_wp2_with fail
          refine (CA.out _).mono ?_
          rintro e wq ⟨rfl, rfl⟩
          clear s_VR f_VR z_VR
          have VF := Hid.mk (VR.filled [.int .i64 3, .int .i64 0, .slice none 0 0] rfl)
          have HT := Hid.mk VR.there
          have BR := belowCells B (show w.heap.size ≤ w.heap.size by (first | omega | (simp; done) | (simp; omega))) 0 [.int .i64 3, .int .i64 0, .slice none 0 0]
          replace BR := Hid.mk BR
          obtain ⟨s_VR, f_VR, z_VR⟩ := VR.open
          go_wp2_with (refine wpList_store_mid rfl 33 _ _ rfl (w.heap.size) 0 #[.int .i64 3, .int .i64 0, .slice none 0 0] rfl rfl HT.out (by kernel_rfl) (by kernel_rfl) ?_)
          refine bodyPost_ret (v := .agg #[.int .i64 3, .int .i64 0, .slice none 0 0]) (results_row Try.results29 _ _ (w.heap.size) [.int .i64 3, .int .i64 0, .slice none 0 0] _ rfl VF.out Try.underlying33 rfl (by kernel_rfl)) rfl ⟨none, 0, rfl, OwnTerm.none, BR.out⟩
        · rw [hg, Bool.true_and] at hs
          rw [hg] at CA
          have HS := Hid.mk hs
          clear hs hg
          go_wp2_with fail
          refine (CA.out _).mono ?_
          rintro e wr ⟨rfl, rfl⟩
          go_wp2
          go_roundw
          case rel => exact ⟨k + 1, by omega, by go_num, HS, by trivial⟩
          case measure => simp [intOf]; omega
      · obtain rfl : k = m := by omega
        have hs := hdr.out
        rw [List.drop_of_length_le (by omega)] at hs
        simp at hs
  · rw [hr]
    rw [h1] at CT
    have hal := h2
    rw [hn] at hal
    have CL := Hid.mk (fun w h h' => l5List_ok zs xs a n ca c m d w h hn (by have := (tfC_zero h1).1; omega) hcn h' hm hmd)
    clear hr h1 h2
    generalize plP xs zs = P at *
    obtain ⟨kc, kk, ls⟩ := P
    simp only at *
    obtain ⟨kl, hkl⟩ : ∃ m, ls.length = m := ⟨_, rfl⟩
    rw [hkl] at CL ⊢
    replace hkl := Hid.mk hkl
    go_enter Try.func29, Try.ntmps29
    have B := Below.refl w.heap.size w
    replace ha := ha.kept (belowA w (.cells #[.int .i64 0, .int .i64 0, .slice none 0 0] 33))
    replace hR := hR.kept (belowA w (.cells #[.int .i64 0, .int .i64 0, .slice none 0 0] 33))
    replace B := thenB B (belowA w (.cells #[.int .i64 0, .int .i64 0, .slice none 0 0] 33))
    have VR := V.new w [.int .i64 0, .int .i64 0, .slice none 0 0] 33
    obtain ⟨s_VR, f_VR, z_VR⟩ := VR.open
    have Bo := B
    go_wp2_with fail
    refine (CT.out _ ha).mono ?_
    rintro e w121 ⟨rfl, b121⟩
    clear s_VR f_VR z_VR
    have S121 := b121.size
    simp only [World.size_alloc] at S121
    replace VR := VR.kept b121
    replace ha := ha.kept b121
    replace hR := hR.kept b121
    replace B := thenB B b121
    clear b121
    obtain ⟨s_VR, f_VR, z_VR⟩ := VR.open
    have Bo := B
    have VR1 := Hid.mk VR
    have B1 := Hid.mk B
    have RA := Hid.mk ha
    have RL := Hid.mk hR
    have HAL := Hid.mk hal
    clear ha hR hal VR B Bo
    clear s_VR f_VR z_VR
    go_wp2
    go_loopw [6] (fun i wr => ∃ k : Nat, k ≤ m ∧ i = .int .i64 k ∧ Hid ((zs.drop k).all (fun z => btw z 0 ((n : Int) - 1)) = true) ∧ wr = w121) (fun i _ => m - (intOf i).toNat)
    case atStart => exact ⟨0, Nat.zero_le _, rfl, HAL, rfl⟩
    case round =>
      obtain ⟨k, hk, rfl, hdr, hwr⟩ := hrel
      subst hwr
      by_cases hlt : k < m
      · obtain ⟨z, hz⟩ : ∃ z, zs.getD k 0 = z := ⟨_, rfl⟩
        have hk1 : (k : Int) < (m : Int) := by omega
        have hs := hdr.out
        rw [List.drop_eq_getElem_cons (by omega), List.all_cons, show zs[k]'(by omega) = z by rw [← hz]; simp [List.getD, show k < zs.length by omega]] at hs
        rcases RL.out with h0 | ⟨b1, o1, rfl, hca2⟩
        · rw [h0] at hm; simp at hm; omega
        have p0 := hca2 k (by omega)
        rw [hz] at p0
        clear hca2 hz
        have CA := Hid.mk (fun w => l5At_ok a n ca z w (by unfold maxLen; omega))
        cases hg : btw z 0 ((n : Int) - 1)
        · rw [hg] at hs; simp at hs
        · rw [hg, Bool.true_and] at hs
          rw [hg] at CA
          have HS := Hid.mk hs
          clear hs hg
          go_wp2_with fail
          refine (CA.out _).mono ?_
          rintro e wr ⟨rfl, rfl⟩
          go_wp2
          go_roundw
          case rel => exact ⟨k + 1, by omega, by go_num, HS, by trivial⟩
          case measure => simp [intOf]; omega
      · obtain rfl : k = m := by omega
        have VR := VR1.out
        have B := B1.out
        have ha := RA.out
        have hR := RL.out
        obtain ⟨s_VR, f_VR, z_VR⟩ := VR.open
        have Bo := B
        go_wp2_with fail
        refine (CL.out _ ha hR).mono ?_
        rintro e w127 ⟨c4, d4, rfl, O, b127⟩
        clear s_VR f_VR z_VR
        have S127 := b127.size
        replace VR := VR.kept b127
        replace ha := ha.kept b127
        replace hR := hR.kept b127
        replace B := thenB B b127
        clear b127
        obtain ⟨s_VR, f_VR, z_VR⟩ := VR.open
        have Bo := B
        have OL := Hid.mk (fun b hb => (O.lt b hb).1)
        clear s_VR f_VR z_VR
        have VF := Hid.mk (VR.filled [.int .i64 kc, .int .i64 kk, .slice c4 kl d4] rfl)
        have HT := Hid.mk VR.there
        have BR := belowCells B (show w.heap.size ≤ w.heap.size by (first | omega | (simp; done) | (simp; omega))) 0 [.int .i64 kc, .int .i64 kk, .slice c4 kl d4]
        replace BR := Hid.mk BR
        have HO := Hid.mk ((O.mono (show w.heap.size ≤ _ by first | omega | (simp; done) | (simp; omega))).apart (B := w.heap.size) (by intro b hb; have := OL.out b hb; first | omega | (simp at this; omega)) 0 [.int .i64 kc, .int .i64 kk, .slice c4 kl d4])
        obtain ⟨s_VR, f_VR, z_VR⟩ := VR.open
        go_wp2_with (refine wpList_store_mid rfl 33 _ _ rfl (w.heap.size) 0 #[.int .i64 kc, .int .i64 kk, .slice c4 kl d4] rfl rfl HT.out (by kernel_rfl) (by kernel_rfl) ?_)
        refine bodyPost_ret (v := .agg #[.int .i64 kc, .int .i64 kk, .slice c4 kl d4]) (results_row Try.results29 _ _ (w.heap.size) [.int .i64 kc, .int .i64 kk, .slice c4 kl d4] _ rfl VF.out Try.underlying33 rfl (by kernel_rfl)) rfl ⟨c4, d4, rfl, HO.out, BR.out⟩

end Go.Proofs.Ythkmoabkeblbjaa
