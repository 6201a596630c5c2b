/- A list put as pairs: the program. -/
import Derived.Test.YthkmoabkeblbjaaTmX
namespace Go.Proofs.Ythkmoabkeblbjaa
open Go.RowKit

theorem rd_cells {k : IntKind} {w : World} {a : Option Addr} {zs : List Int} {B : Nat} (h : Rd k w a zs) (hB : ∀ b : Addr, a = some b → b.block ≠ B) (o : Nat) (vs : List Value) : Rd k (w.setCells B o vs) a zs := by
  rcases h with h | ⟨b, off, rfl, hc⟩
  · exact .inl h
  · exact .inr ⟨b, off, rfl, fun i hi => (cells_far (hB _ rfl) o vs).trans (hc i hi)⟩

theorem putL_pre (xs : List T4) (t : T4) : ∃ us, putL xs t = xs ++ us := by
  unfold putL
  split
  · rename_i h
    rcases put_ways xs t with ⟨h1, e⟩ | ⟨_, _, e⟩ | ⟨_, _, _, e⟩ | ⟨_, _, _, e⟩
    · rw [e] at h; exact absurd h h1
    · exact ⟨[], by rw [e]; simp⟩
    · rw [e] at h; exact absurd h (by decide)
    · exact ⟨[t], by rw [e]⟩
  · exact ⟨[], by simp⟩

set_option maxRecDepth 20000 in
set_option maxHeartbeats 8000000 in
theorem putListF_ok (base p g : Nat) (c : Option Addr) (d : Nat) (xs : List T4) (cc : Option Addr) (m dd : Nat) (zs : List Int) (w : World) (H : Bk w base p g c d xs) (hl : xs.length ≤ 400) (hR : Rd .i64 w cc zs) (hm : zs.length = m) (hmx : m ≤ maxLen)
    (hz : ∀ z ∈ zs, 0 ≤ z ∧ z ≤ 400) (hlb : ∀ b : Addr, cc = some b → b.block < w.heap.size ∧ ¬ BkX p g c b.block) :
    Calls Try.prog 92 #[.pointer (some ⟨p, 0, none⟩), .slice cc m dd] w fun e w' => ∃ c' d' ys, e = .returned (.agg #[.int .i64 (plP xs zs).c, .int .i64 (plP xs zs).k]) ∧ ((plP xs zs).c = 0 → ys = (plP xs zs).l) ∧ ys.length ≤ 400 ∧ (∃ us, ys = xs ++ us) ∧ Bk w' base p g c' d' ys ∧ Sm (BkX p g c) w w' ∧ ∀ k, BkX p g c' k → k < w.heap.size → BkX p g c k := by
  have q0 := build_n0
  have q1 := build_irc
  have q2 := build_irv
  have q3 := build_pr
  have HX : Hid (∀ k, BkX p g c k → k < w.heap.size) := Hid.mk fun k hk => (H.lt k hk).2
  have HZ := Hid.mk hz
  replace hlb := Hid.mk hlb
  unfold maxLen at hmx
  clear hz
  by_cases hm0 : m = 0
  · subst hm0
    obtain rfl : zs = [] := List.eq_nil_of_length_eq_zero hm
    rw [plP]
    have CP := Hid.mk (fun w H => put_ok base p g c d xs ⟨1, 0, 0, 0⟩ w H ⟨(okI_of (x := 1) (by decide) (by decide)), (okI_of (x := 0) (by decide) (by decide)), (okI_of (x := 0) (by decide) (by decide)), (okI_of (x := 0) (by decide) (by decide))⟩ hl)
    have HPL : Hid ((put xs ⟨1, 0, 0, 0⟩).c = 0 → putL xs ⟨1, 0, 0, 0⟩ = (put xs ⟨1, 0, 0, 0⟩).l) := Hid.mk (fun h => by unfold putL; rw [if_pos h])
    have HPX : Hid (∃ us, putL xs ⟨1, 0, 0, 0⟩ = xs ++ us) := Hid.mk (putL_pre _ _)
    have HPN : Hid ((putL xs ⟨1, 0, 0, 0⟩).length ≤ 400) := Hid.mk (by unfold putL; split; exact put_len hl; exact hl)
    generalize putL xs ⟨1, 0, 0, 0⟩ = zl at *
    generalize put xs ⟨1, 0, 0, 0⟩ = Q at *
    obtain ⟨kc, kk, kl⟩ := Q
    simp only at *
    clear hR hm
    go_enter Try.func92, Try.ntmps92
    have S := Sm.refl (BkX p g c) w
    replace H := H.kept (belowA w (.cells #[.int .i64 0, .int .i64 0] 51))
    replace S := S.trans (Sm.below (belowA w (.cells #[.int .i64 0, .int .i64 0] 51)))
    have VR := V.new w [.int .i64 0, .int .i64 0] 51
    obtain ⟨s_VR, f_VR, z_VR⟩ := VR.open
    have HRX : Hid (¬ BkX p g c w.heap.size) := Hid.mk (fun e => by have := HX.out _ e; omega)
    have hVR := VR.1
    simp only [World.size_alloc] at hVR
    go_wp2_with fail
    refine (CP.out _ H).mono ?_
    rintro e w9 ⟨c9, d9, rfl, H9, S9, hx9⟩
    clear s_VR f_VR z_VR
    replace VR := VR.sm S9 HRX.out
    replace S := S.trans S9
    simp only [World.size_alloc] at hx9
    have HX9 : Hid (∀ k, BkX p g c9 k → k ≠ w.heap.size) := Hid.mk (fun k hk e => by have := HX.out k (hx9 k hk (by omega)); omega)
    replace hx9 : Hid (∀ k, BkX p g c9 k → k < w.heap.size → BkX p g c k) := Hid.mk (fun k hk hl => hx9 k hk (by omega))
    clear H S9
    have VF := Hid.mk (VR.filled [.int .i64 kc, .int .i64 kk] rfl)
    have HT := Hid.mk VR.there
    have SR := Hid.mk (Sm.newCells S (show w.heap.size ≤ w.heap.size by (first | omega | (simp; done) | (simp; omega))) 0 [.int .i64 kc, .int .i64 kk])
    have HH := Hid.mk (H9.apart (B := w.heap.size) HX9.out 0 [.int .i64 kc, .int .i64 kk])
    clear H9
    obtain ⟨s_VR, f_VR, z_VR⟩ := VR.open
    go_wp2_with (refine wpList_store_mid rfl 51 _ _ rfl (w.heap.size) 0 #[.int .i64 kc, .int .i64 kk] rfl rfl HT.out (by kernel_rfl) (by kernel_rfl) ?_)
    refine bodyPost_ret (v := .agg #[.int .i64 kc, .int .i64 kk]) (results_row Try.results92 _ _ (w.heap.size) [.int .i64 kc, .int .i64 kk] _ rfl VF.out Try.underlying51 rfl (by kernel_rfl)) rfl ⟨c9, d9, _, rfl, HPL.out, HPN.out, HPX.out, HH.out, SR.out, hx9.out⟩
  · obtain ⟨l, rfl⟩ : ∃ l, m = l + 1 := ⟨m - 1, by omega⟩
    obtain ⟨z0, hzl⟩ : ∃ z, zs.getD l 0 = z := ⟨_, rfl⟩
    have e1 : ((l + 1 : Nat) : Int) - 1 = (l : Int) := by omega
    have e2 : ¬ ((l : Int) < 0) := by omega
    have e3 : (l : Int) < ((l + 1 : Nat) : Int) := by omega
    have e4 : (l : Int) < (l : Int) + 1 := by omega
    clear hm0
    go_enter Try.func92, Try.ntmps92
    have S := Sm.refl (BkX p g c) w
    replace H := H.kept (belowA w (.cells #[.int .i64 0, .int .i64 0] 51))
    replace hR := hR.kept (belowA w (.cells #[.int .i64 0, .int .i64 0] 51))
    replace S := S.trans (Sm.below (belowA w (.cells #[.int .i64 0, .int .i64 0] 51)))
    have VR := V.new w [.int .i64 0, .int .i64 0] 51
    obtain ⟨s_VR, f_VR, z_VR⟩ := VR.open
    have hR0 := hR
    rcases hR0 with hR0 | ⟨b1, o1, rfl, hca⟩
    · rw [hR0] at hm; simp at hm
    have p0 := hca l (by omega)
    rw [hzl] at p0
    clear hca
    replace VR := VR.kept (belowA (w.alloc (.cells #[.int .i64 0, .int .i64 0] 51)) (.cells #[.int .i64 0, .int .i64 z0] 51))
    replace H := H.kept (belowA (w.alloc (.cells #[.int .i64 0, .int .i64 0] 51)) (.cells #[.int .i64 0, .int .i64 z0] 51))
    replace hR := hR.kept (belowA (w.alloc (.cells #[.int .i64 0, .int .i64 0] 51)) (.cells #[.int .i64 0, .int .i64 z0] 51))
    replace S := S.trans (Sm.below (belowA (w.alloc (.cells #[.int .i64 0, .int .i64 0] 51)) (.cells #[.int .i64 0, .int .i64 z0] 51)))
    have VT : V ((w.alloc (.cells #[.int .i64 0, .int .i64 0] 51)).alloc (.cells #[.int .i64 0, .int .i64 z0] 51)) (w.heap.size + 1) [.int .i64 0, .int .i64 z0] := V.newAt _ _ _ _ (by simp)
    clear s_VR f_VR z_VR
    obtain ⟨s_VR, f_VR, z_VR⟩ := VR.open
    obtain ⟨s_VT, f_VT, z_VT⟩ := VT.open
    have HXX : Hid (∀ k, BkX p g c k → k ≠ w.heap.size ∧ k ≠ w.heap.size + 1) := Hid.mk (fun k hk => by have := HX.out k hk; omega)
    clear s_VR f_VR z_VR s_VT f_VT z_VT
    have VR1 := Hid.mk VR
    have VT1 := Hid.mk VT
    have H1 := Hid.mk H
    have S1 := Hid.mk S
    have hR1 := Hid.mk hR
    clear VR H S hR
    obtain ⟨s_VT, f_VT, z_VT⟩ := VT.open
    go_wp2
    clear s_VT f_VT z_VT VT p0
    go_loopw [7] (fun i wr => ∃ (j : Nat) (c' : Option Addr) (d' : Nat) (ys : List T4), j ≤ l ∧ i = .int .i64 ((j : Int) - 1) ∧ Hid (((plP xs (zs.drop j)).c = 0 → ys = (plP xs (zs.drop j)).l) ∧ ys.length ≤ 400 ∧ ∃ us, ys = xs ++ us) ∧ Bk wr base p g c' d' ys ∧ V wr w.heap.size [.int .i64 0, .int .i64 0] ∧ V wr (w.heap.size + 1) [.int .i64 (plP xs (zs.drop j)).c, .int .i64 (plP xs (zs.drop j)).k] ∧ Rd .i64 wr (some ⟨b1, o1, none⟩) zs ∧ Sm (BkX p g c) w wr ∧ Hid (∀ k, BkX p g c' k → k < w.heap.size → BkX p g c k) ∧ Hid (∀ k, BkX p g c' k → k ≠ w.heap.size ∧ k ≠ w.heap.size + 1)) (fun i _ => (intOf i + 1).toNat)
    case atStart =>
      have e := plP_last xs zs l (by omega) hzl
      refine ⟨l, c, d, xs, Nat.le_refl _, rfl, Hid.mk ⟨fun _ => by rw [e], hl, [], by simp⟩, H1.out, VR1.out, ?_, hR1.out, S1.out, Hid.mk (fun k h _ => h), HXX.out |> Hid.mk⟩
      rw [e]; exact VT1.out
    case round =>
      clear VR1 VT1 H1 S1 hR1 HXX
      obtain ⟨j, c', d', ys, hj, rfl, hys, H, VR, VT, hR, S, hsub, hoff⟩ := hrel
      have hst := plP_stuck xs zs j (by omega)
      have hkj := plP_k hl (zs.drop j) (fun z hz => by have := HZ.out z (List.mem_of_mem_drop hz); omega)
      obtain ⟨P, hP⟩ : ∃ P, plP xs (zs.drop j) = P := ⟨_, rfl⟩
      have HP := Hid.mk hP
      rw [hP] at hys VT hst hkj
      obtain ⟨pc, pk, pl⟩ := P
      simp only at *
      clear hP
      by_cases hj0 : j = 0
      · subst hj0
        have HE : Hid (plP xs zs = ⟨pc, pk, pl⟩) := Hid.mk (by have := HP.out; rwa [List.drop_zero] at this)
        have HYS := hys
        clear hst hkj
        obtain ⟨s_VR, f_VR, z_VR⟩ := VR.open
        obtain ⟨s_VT, f_VT, z_VT⟩ := VT.open
        clear s_VR f_VR z_VR s_VT f_VT z_VT
        have VF := Hid.mk (VR.filled [.int .i64 pc, .int .i64 pk] rfl)
        have HT := Hid.mk VR.there
        have SR := Hid.mk (Sm.newCells S (show w.heap.size ≤ w.heap.size by (first | omega | (simp; done) | (simp; omega))) 0 [.int .i64 pc, .int .i64 pk])
        have HH := Hid.mk (H.apart (B := w.heap.size) (fun k hk => (hoff.out k hk).1) 0 [.int .i64 pc, .int .i64 pk])
        clear H
        obtain ⟨s_VR, f_VR, z_VR⟩ := VR.open
        obtain ⟨s_VT, f_VT, z_VT⟩ := VT.open
        go_wp2_with (refine wpList_store_mid rfl 51 _ _ rfl (w.heap.size) 0 #[.int .i64 pc, .int .i64 pk] rfl rfl HT.out (by kernel_rfl) (by kernel_rfl) ?_)
        refine bodyPost_ret (v := .agg #[.int .i64 pc, .int .i64 pk]) (results_row Try.results92 _ _ (w.heap.size) [.int .i64 pc, .int .i64 pk] _ rfl VF.out Try.underlying51 rfl (by kernel_rfl)) rfl ⟨c', d', ys, by rw [HE.out], by rw [HE.out]; exact HYS.out.1, HYS.out.2.1, HYS.out.2.2, HH.out, SR.out, hsub.out⟩
      · obtain ⟨i, rfl⟩ : ∃ i, j = i + 1 := ⟨j - 1, by omega⟩
        have ei : ((i + 1 : Nat) : Int) - 1 = (i : Int) := by omega
        have hi0 : (0 : Int) ≤ (i : Int) := by omega
        rw [ei]
        by_cases hpc : pc = 0
        rotate_left
        · have hpc2 : (pc == 0) = false := by simp [hpc]
          have HE := Hid.mk (hst hpc)
          have HYS := hys
          clear hst hkj hpc ei
          obtain ⟨s_VR, f_VR, z_VR⟩ := VR.open
          obtain ⟨s_VT, f_VT, z_VT⟩ := VT.open
          clear s_VR f_VR z_VR s_VT f_VT z_VT
          have VF := Hid.mk (VR.filled [.int .i64 pc, .int .i64 pk] rfl)
          have HT := Hid.mk VR.there
          have SR := Hid.mk (Sm.newCells S (show w.heap.size ≤ w.heap.size by (first | omega | (simp; done) | (simp; omega))) 0 [.int .i64 pc, .int .i64 pk])
          have HH := Hid.mk (H.apart (B := w.heap.size) (fun k hk => (hoff.out k hk).1) 0 [.int .i64 pc, .int .i64 pk])
          clear H
          obtain ⟨s_VR, f_VR, z_VR⟩ := VR.open
          obtain ⟨s_VT, f_VT, z_VT⟩ := VT.open
          go_wp2_with (refine wpList_store_mid rfl 51 _ _ rfl (w.heap.size) 0 #[.int .i64 pc, .int .i64 pk] rfl rfl HT.out (by kernel_rfl) (by kernel_rfl) ?_)
          refine bodyPost_ret (v := .agg #[.int .i64 pc, .int .i64 pk]) (results_row Try.results92 _ _ (w.heap.size) [.int .i64 pc, .int .i64 pk] _ rfl VF.out Try.underlying51 rfl (by kernel_rfl)) rfl ⟨c', d', ys, by rw [HE.out], by rw [HE.out]; exact HYS.out.1, HYS.out.2.1, HYS.out.2.2, HH.out, SR.out, hsub.out⟩
        · subst hpc
          have eys := hys.out.1 rfl
          subst eys
          obtain ⟨z, hz⟩ : ∃ z, zs.getD i 0 = z := ⟨_, rfl⟩
          have hzr := HZ.out z (by rw [← hz]; simp [List.getD, show i < zs.length by omega])
          have hstep := plP_drop xs zs i (by omega) hz
          rw [HP.out, if_pos rfl] at hstep
          simp only at hstep
          have okp : okT ⟨3, z, pk, 0⟩ := ⟨(okI_of (x := 3) (by decide) (by decide)), okI_of (by simp only; omega) (by simp only; omega), okI_of (by simp only; omega) (by simp only; omega), (okI_of (x := 0) (by decide) (by decide))⟩
          have CP2 := Hid.mk (fun w c d H => put_ok base p g c d ys ⟨3, z, pk, 0⟩ w H okp hys.out.2.1)
          have HL9 := put_len (t := ⟨3, z, pk, 0⟩) hys.out.2.1
          have HPX2 : ∃ us, putL ys ⟨3, z, pk, 0⟩ = xs ++ us := by obtain ⟨u1, e1⟩ := hys.out.2.2; obtain ⟨u2, e2⟩ := putL_pre ys ⟨3, z, pk, 0⟩; exact ⟨u1 ++ u2, by rw [e2, e1, List.append_assoc]⟩
          have HPL2 : (put ys ⟨3, z, pk, 0⟩).c = 0 → putL ys ⟨3, z, pk, 0⟩ = (put ys ⟨3, z, pk, 0⟩).l := fun h => by unfold putL; rw [if_pos h]
          have HLL : (putL ys ⟨3, z, pk, 0⟩).length ≤ 400 := by unfold putL; split; exact HL9; exact hys.out.2.1
          generalize putL ys ⟨3, z, pk, 0⟩ = zl at *
          generalize put ys ⟨3, z, pk, 0⟩ = Q at *
          obtain ⟨qc, qk, ql⟩ := Q
          simp only at *
          replace hstep := Hid.mk hstep
          have HPQ := Hid.mk (And.intro HPL2 (And.intro HLL HPX2))
          clear HPL2 HLL HPX2 HL9 hys hst hkj okp HP
          rcases hR with hR0 | ⟨b2, o2, e2, hca⟩
          · rw [hR0] at hm; simp at hm
          have hR : Rd .i64 wr (some ⟨b1, o1, none⟩) zs := .inr ⟨b2, o2, e2, hca⟩
          simp only [Option.some.injEq, Addr.mk.injEq, and_true] at e2
          obtain ⟨rfl, rfl⟩ := e2
          have p0 := hca i (by omega)
          rw [hz] at p0
          have hil : (i : Int) < (l : Int) + 1 := by omega
          have hil2 : i < l + 1 := by omega
          have hbl := hlb.out _ rfl
          have hsz := S.size
          have hVT := VT.1
          clear hca hz ei
          obtain ⟨s_VT, f_VT, z_VT⟩ := VT.open
          go_upto_region 8 with fail
          clear s_VT f_VT z_VT
          refine wp_region_any (by kernel_rfl) ?_
          change wpAny _ _ _ _ _ _ _ wr.drew
          have bd : Below wr.heap.size wr wr.drew := (Below.refl _ _).drew
          replace p0 : wr.drew.cell? ⟨b1, o1 + i, none⟩ = some (.int .i64 z) := p0
          replace VR := VR.kept bd
          replace VT := VT.kept bd
          replace H := H.kept bd
          replace hR := hR.kept bd
          replace S := S.trans (Sm.below bd)
          replace hVT : w.heap.size + 1 < wr.drew.heap.size := VT.1
          clear bd hsz
          generalize wr.drew = wd at *
          refine wpAny_take (i := 0) (oi := _) (v := ?vtt1) rfl (by kernel_rfl) (by kernel_rfl) (by kernel_rfl) (fun _ _ _ h => h) (Or.inl ⟨by rfl, ?hytt1⟩) ?resttt1
          case hytt1 => (intro w; go_simp; first | done | with_reducible rfl)
          try simp only [Act.put, List.getElem_toArray, List.getElem_cons_zero, List.setIfInBounds_toArray, List.set_cons_zero, List.set_cons_succ]
          refine wpAny_take (i := 1) (oi := _) (v := ?vtt2) rfl (by kernel_rfl) (by kernel_rfl) (by kernel_rfl) (fun _ _ _ h => h) (Or.inl ⟨by rfl, ?hytt2⟩) ?resttt2
          case hytt2 => (intro w; go_simp; first | done | with_reducible rfl)
          try simp only [Act.put, List.getElem_toArray, List.getElem_cons_zero, List.getElem_cons_succ, List.setIfInBounds_toArray, List.set_cons_zero, List.set_cons_succ]
          refine wpAny_take (i := 2) (oi := _) (v := ?vtt3) rfl (by kernel_rfl) (by kernel_rfl) (by kernel_rfl) (fun _ _ _ h => h) (Or.inl ⟨by rfl, ?hytt3⟩) ?resttt3
          case hytt3 => (intro w; go_simp; first | done | with_reducible rfl)
          try simp only [Act.put, List.getElem_toArray, List.getElem_cons_zero, List.getElem_cons_succ, List.setIfInBounds_toArray, List.set_cons_zero, List.set_cons_succ]
          refine wpAny_take (i := 3) (oi := _) (v := ?vtt4) rfl (by kernel_rfl) (by kernel_rfl) (by kernel_rfl) (fun _ _ _ h => h) (Or.inl ⟨by rfl, ?hytt4⟩) ?resttt4
          case hytt4 => (intro w; go_simp; first | done | with_reducible rfl)
          try simp only [Act.put, List.getElem_toArray, List.getElem_cons_zero, List.getElem_cons_succ, List.setIfInBounds_toArray, List.set_cons_zero, List.set_cons_succ]
          refine wpAny_take (i := 5) (oi := _) (v := ?vtt5) rfl (by kernel_rfl) (by kernel_rfl) (by kernel_rfl) (fun _ _ _ h => h) (Or.inl ⟨by rfl, ?hytt5⟩) ?resttt5
          case hytt5 => (intro w; go_simp; first | done | with_reducible rfl)
          try simp only [Act.put, List.getElem_toArray, List.getElem_cons_zero, List.getElem_cons_succ, List.setIfInBounds_toArray, List.set_cons_zero, List.set_cons_succ]
          refine wpAny_ready (rs := [4, 6]) (by kernel_rfl) (by simp) ?_
          refine AllReady.cons (o := _) rfl (fun K0 hK0 => ?_) (AllReady.cons (o := _) rfl (fun K0 hK0 => ?_) AllReady.nil)
          · skip
            go_simp
            refine hK0 _ _ ?_
            clear hK0 K0
            try simp only [Act.put, List.getElem_toArray, List.getElem_cons_zero, List.getElem_cons_succ, List.setIfInBounds_toArray, List.set_cons_zero, List.set_cons_succ]
            refine wpAny_ready (rs := [6]) (by kernel_rfl) (by simp) ?_
            refine AllReady.cons (o := _) rfl (fun K0 hK0 => ?_) AllReady.nil
            obtain ⟨s_VT, f_VT, z_VT⟩ := VT.open
            go_simp
            refine hK0 _ _ ?_
            clear hK0 K0 s_VT f_VT z_VT
            try simp only [Act.put, List.getElem_toArray, List.getElem_cons_zero, List.getElem_cons_succ, List.setIfInBounds_toArray, List.set_cons_zero, List.set_cons_succ]
            refine wpAny_take (i := 7) (oi := _) (v := ?vtt6) rfl (by kernel_rfl) (by kernel_rfl) (by kernel_rfl) (fun _ _ _ h => h) (Or.inl ⟨by rfl, ?hytt6⟩) ?resttt6
            case hytt6 => (intro w; go_simp; first | done | with_reducible rfl)
            try simp only [Act.put, List.getElem_toArray, List.getElem_cons_zero, List.getElem_cons_succ, List.setIfInBounds_toArray, List.set_cons_zero, List.set_cons_succ]
            refine wpAny_ready (rs := [8]) (by kernel_rfl) (by simp) ?_
            refine AllReady.cons (o := _) rfl (fun K0 hK0 => ?_) AllReady.nil
            go_simp
            go_at_call 70
            refine (CP2.out _ c' d' H).mono ?_
            rintro e w9 ⟨c9, d9, rfl, H9, S9, hx9⟩
            refine hK0 _ _ ?_
            clear hK0 K0
            try simp only [Act.put, List.getElem_toArray, List.getElem_cons_zero, List.getElem_cons_succ, List.setIfInBounds_toArray, List.set_cons_zero, List.set_cons_succ]
            have n0 : ¬ BkX p g c' w.heap.size := fun e => (hoff.out _ e).1 rfl
            have n1 : ¬ BkX p g c' (w.heap.size + 1) := fun e => (hoff.out _ e).2 rfl
            have nb : ¬ BkX p g c' b1 := fun e => hbl.2 (hsub.out _ e hbl.1)
            replace VR := VR.sm S9 n0
            replace VT := VT.sm S9 n1
            replace hR := hR.sm S9 (fun b hb => by simp only [Option.some.injEq] at hb; subst hb; exact nb)
            have hoff9 : Hid (∀ k, BkX p g c9 k → k ≠ w.heap.size ∧ k ≠ w.heap.size + 1) := Hid.mk (fun k hk => ⟨fun e => n0 (by rw [← e]; exact hx9 k hk (by omega)), fun e => n1 (by rw [← e]; exact hx9 k hk (by omega))⟩)
            have hsub9 : Hid (∀ k, BkX p g c9 k → k < w.heap.size → BkX p g c k) := Hid.mk (fun k hk hl => hsub.out k (hx9 k hk (by omega)) hl)
            have S10 := Sm.less S.size S9 (fun k hk h => hsub.out k h hk) S
            clear S S9 hx9 n0 n1 nb H hsub hoff p0
            refine wpAny_ready (rs := [9]) (by kernel_rfl) (by simp) ?_
            refine AllReady.cons (o := _) rfl (fun K0 hK0 => ?_) AllReady.nil
            have HT := Hid.mk VT.there
            have VF := VT.filled [.int .i64 qc, .int .i64 qk] rfl
            have VR6 := VR.apart (B := w.heap.size + 1) (by omega) 0 [.int .i64 qc, .int .i64 qk]
            have H6 := H9.apart (B := w.heap.size + 1) (fun k hk => (hoff9.out k hk).2) 0 [.int .i64 qc, .int .i64 qk]
            have S6 := Sm.newCells S10 (show w.heap.size ≤ w.heap.size + 1 by omega) 0 [.int .i64 qc, .int .i64 qk]
            have hR6 := rd_cells (B := w.heap.size + 1) hR (fun b hb => by simp only [Option.some.injEq] at hb; subst hb; have := hbl.1; simp only at this ⊢; omega) 0 [.int .i64 qc, .int .i64 qk]
            obtain ⟨w6, hw6⟩ : ∃ w6, w9.setCells (w.heap.size + 1) 0 [.int .i64 qc, .int .i64 qk] = w6 := ⟨_, rfl⟩
            rw [hw6] at VF VR6 H6 S6 hR6
            replace hw6 := Hid.mk hw6
            replace VF := Hid.mk VF
            replace VR6 := Hid.mk VR6
            replace H6 := Hid.mk H6
            replace S6 := Hid.mk S6
            replace hR6 := Hid.mk hR6
            clear VR VT H9 S10 hR
            rw [if_pos (by rfl)]
            refine wp_stroke w6 51 _ _ rfl (w.heap.size + 1) 0 #[.int .i64 qc, .int .i64 qk] rfl rfl HT.out (by kernel_rfl) (by kernel_rfl) hw6.out ?_
            refine hK0 _ _ ?_
            clear hK0 K0 HT hw6
            refine wpAny_done (by kernel_rfl) ?_ _
            go_wp2
            go_roundw
            case rel =>
              refine ⟨i, c9, d9, zl, by omega, by go_num, ?_, H6.out, VR6.out, ?_, hR6.out, S6.out, hsub9, hoff9⟩
              · exact Hid.mk (by rw [hstep.out]; exact HPQ.out)
              · rw [hstep.out]; exact VF.out
            case measure => first | (simp [intOf]; done) | (simp [intOf]; omega)
          · skip
            obtain ⟨s_VT, f_VT, z_VT⟩ := VT.open
            go_simp
            refine hK0 _ _ ?_
            clear hK0 K0 s_VT f_VT z_VT
            try simp only [Act.put, List.getElem_toArray, List.getElem_cons_zero, List.getElem_cons_succ, List.setIfInBounds_toArray, List.set_cons_zero, List.set_cons_succ]
            refine wpAny_ready (rs := [4]) (by kernel_rfl) (by simp) ?_
            refine AllReady.cons (o := _) rfl (fun K0 hK0 => ?_) AllReady.nil
            go_simp
            refine hK0 _ _ ?_
            clear hK0 K0
            try simp only [Act.put, List.getElem_toArray, List.getElem_cons_zero, List.getElem_cons_succ, List.setIfInBounds_toArray, List.set_cons_zero, List.set_cons_succ]
            refine wpAny_take (i := 7) (oi := _) (v := ?vtt7) rfl (by kernel_rfl) (by kernel_rfl) (by kernel_rfl) (fun _ _ _ h => h) (Or.inl ⟨by rfl, ?hytt7⟩) ?resttt7
            case hytt7 => (intro w; go_simp; first | done | with_reducible rfl)
            try simp only [Act.put, List.getElem_toArray, List.getElem_cons_zero, List.getElem_cons_succ, List.setIfInBounds_toArray, List.set_cons_zero, List.set_cons_succ]
            refine wpAny_ready (rs := [8]) (by kernel_rfl) (by simp) ?_
            refine AllReady.cons (o := _) rfl (fun K0 hK0 => ?_) AllReady.nil
            go_simp
            go_at_call 70
            refine (CP2.out _ c' d' H).mono ?_
            rintro e w9 ⟨c9, d9, rfl, H9, S9, hx9⟩
            refine hK0 _ _ ?_
            clear hK0 K0
            try simp only [Act.put, List.getElem_toArray, List.getElem_cons_zero, List.getElem_cons_succ, List.setIfInBounds_toArray, List.set_cons_zero, List.set_cons_succ]
            have n0 : ¬ BkX p g c' w.heap.size := fun e => (hoff.out _ e).1 rfl
            have n1 : ¬ BkX p g c' (w.heap.size + 1) := fun e => (hoff.out _ e).2 rfl
            have nb : ¬ BkX p g c' b1 := fun e => hbl.2 (hsub.out _ e hbl.1)
            replace VR := VR.sm S9 n0
            replace VT := VT.sm S9 n1
            replace hR := hR.sm S9 (fun b hb => by simp only [Option.some.injEq] at hb; subst hb; exact nb)
            have hoff9 : Hid (∀ k, BkX p g c9 k → k ≠ w.heap.size ∧ k ≠ w.heap.size + 1) := Hid.mk (fun k hk => ⟨fun e => n0 (by rw [← e]; exact hx9 k hk (by omega)), fun e => n1 (by rw [← e]; exact hx9 k hk (by omega))⟩)
            have hsub9 : Hid (∀ k, BkX p g c9 k → k < w.heap.size → BkX p g c k) := Hid.mk (fun k hk hl => hsub.out k (hx9 k hk (by omega)) hl)
            have S10 := Sm.less S.size S9 (fun k hk h => hsub.out k h hk) S
            clear S S9 hx9 n0 n1 nb H hsub hoff p0
            refine wpAny_ready (rs := [9]) (by kernel_rfl) (by simp) ?_
            refine AllReady.cons (o := _) rfl (fun K0 hK0 => ?_) AllReady.nil
            have HT := Hid.mk VT.there
            have VF := VT.filled [.int .i64 qc, .int .i64 qk] rfl
            have VR6 := VR.apart (B := w.heap.size + 1) (by omega) 0 [.int .i64 qc, .int .i64 qk]
            have H6 := H9.apart (B := w.heap.size + 1) (fun k hk => (hoff9.out k hk).2) 0 [.int .i64 qc, .int .i64 qk]
            have S6 := Sm.newCells S10 (show w.heap.size ≤ w.heap.size + 1 by omega) 0 [.int .i64 qc, .int .i64 qk]
            have hR6 := rd_cells (B := w.heap.size + 1) hR (fun b hb => by simp only [Option.some.injEq] at hb; subst hb; have := hbl.1; simp only at this ⊢; omega) 0 [.int .i64 qc, .int .i64 qk]
            obtain ⟨w6, hw6⟩ : ∃ w6, w9.setCells (w.heap.size + 1) 0 [.int .i64 qc, .int .i64 qk] = w6 := ⟨_, rfl⟩
            rw [hw6] at VF VR6 H6 S6 hR6
            replace hw6 := Hid.mk hw6
            replace VF := Hid.mk VF
            replace VR6 := Hid.mk VR6
            replace H6 := Hid.mk H6
            replace S6 := Hid.mk S6
            replace hR6 := Hid.mk hR6
            clear VR VT H9 S10 hR
            rw [if_pos (by rfl)]
            refine wp_stroke w6 51 _ _ rfl (w.heap.size + 1) 0 #[.int .i64 qc, .int .i64 qk] rfl rfl HT.out (by kernel_rfl) (by kernel_rfl) hw6.out ?_
            refine hK0 _ _ ?_
            clear hK0 K0 HT hw6
            refine wpAny_done (by kernel_rfl) ?_ _
            go_wp2
            go_roundw
            case rel =>
              refine ⟨i, c9, d9, zl, by omega, by go_num, ?_, H6.out, VR6.out, ?_, hR6.out, S6.out, hsub9, hoff9⟩
              · exact Hid.mk (by rw [hstep.out]; exact HPQ.out)
              · rw [hstep.out]; exact VF.out
            case measure => first | (simp [intOf]; done) | (simp [intOf]; omega)

theorem putList_ok (base p g : Nat) (c : Option Addr) (d : Nat) (xs : List T4) (cc : Option Addr) (m dd : Nat) (zs : List Int) (w : World) (H : Bk w base p g c d xs) (hl : xs.length ≤ 400) (hR : Rd .i64 w cc zs) (hm : zs.length = m) (hmx : m ≤ maxLen)
    (hz : ∀ z ∈ zs, 0 ≤ z ∧ z < 400) (hlb : ∀ b : Addr, cc = some b → b.block < base) :
    Calls Try.prog 92 #[.pointer (some ⟨p, 0, none⟩), .slice cc m dd] w fun e w' => ∃ c' d' ys, e = .returned (.agg #[.int .i64 (plP xs zs).c, .int .i64 (plP xs zs).k]) ∧ ((plP xs zs).c = 0 → ys = (plP xs zs).l) ∧ Bk w' base p g c' d' ys ∧ Sm (BkX p g c) w w' ∧ ∀ k, BkX p g c' k → k < w.heap.size → BkX p g c k := by
  have h1 := H.lt p (.inl rfl)
  refine (putListF_ok base p g c d xs cc m dd zs w H hl hR hm hmx (fun z h => by have := hz z h; omega) (fun b hb => ⟨by have := hlb b hb; omega, fun e => by have := hlb b hb; have := (H.lt _ e).1; omega⟩)).mono ?_
  rintro e w' ⟨c', d', ys, he, h2, _, _, h3, h4, h5⟩
  exact ⟨c', d', ys, he, h2, h3, h4, h5⟩

set_option maxRecDepth 20000 in
set_option maxHeartbeats 8000000 in
theorem implPutList_ok (a : Option Addr) (n ca : Nat) (xs : List T4) (cc : Option Addr) (m dd : Nat) (zs : List Int) (w : World) (ha : RdTerm w a xs) (hn : xs.length = n) (hx : n ≤ 1048576) (hok : ∀ t ∈ xs, okT t) (hR : Rd .i64 w cc zs) (hm : zs.length = m) (hmx : m ≤ 1048576) (HLW : Hid (∀ b : Addr, cc = some b → b.block < w.heap.size)) :
    Calls Try.prog 28 #[.slice a n ca, .slice cc m dd] w fun e w' => ∃ c d, e = .returned (.agg #[.int .i64 (plT xs zs).c, .int .i64 (plT xs zs).k, .slice c (plT xs zs).l.length d]) ∧ OwnTerm w' w.heap.size c d (plT xs zs).l ∧ Below w.heap.size w w' := by
  have q1 := build_tr0'
  rcases plT_ways xs zs with ⟨h1, hr⟩ | ⟨h1, h2, hr⟩ | ⟨h1, h2, hr⟩
  · have h2 : (tfC xs != 0) = true := by simp [h1]
    have CB := Hid.mk (fun w h => bookOf_no a n ca xs w h hn (by unfold maxLen; omega) hok h1)
    rw [hr]
    clear hr h1
    generalize tfC xs = kk at *
    go_enter Try.func28, Try.ntmps28
    have B := Below.refl w.heap.size w
    replace ha := ha.kept (belowA w (.cells #[.int .i64 0, .int .i64 0, .slice none 0 0] 33))
    replace B := thenB B (belowA w (.cells #[.int .i64 0, .int .i64 0, .slice none 0 0] 33))
    have VR := V.new w [.int .i64 0, .int .i64 0, .slice none 0 0] 33
    obtain ⟨s_VR, f_VR, z_VR⟩ := VR.open
    have Bo := B
    go_wp2_with fail
    refine (CB.out _ ha).mono ?_
    rintro e w61 ⟨rfl, b61⟩
    clear s_VR f_VR z_VR
    have S61 := b61.size
    simp only [World.size_alloc] at S61
    replace VR := VR.kept b61
    replace ha := ha.kept b61
    replace B := thenB B b61
    clear b61
    obtain ⟨s_VR, f_VR, z_VR⟩ := VR.open
    have Bo := B
    clear s_VR f_VR z_VR
    have VF := Hid.mk (VR.filled [.int .i64 kk, .int .i64 0, .slice none 0 0] rfl)
    have HT := Hid.mk VR.there
    have BR := belowCells B (show w.heap.size ≤ w.heap.size by (first | omega | (simp; done) | (simp; omega))) 0 [.int .i64 kk, .int .i64 0, .slice none 0 0]
    replace BR := Hid.mk BR
    obtain ⟨s_VR, f_VR, z_VR⟩ := VR.open
    go_wp2_with (refine wpList_store_mid rfl 33 _ _ rfl (w.heap.size) 0 #[.int .i64 kk, .int .i64 0, .slice none 0 0] rfl rfl HT.out (by kernel_rfl) (by kernel_rfl) ?_)
    refine bodyPost_ret (v := .agg #[.int .i64 kk, .int .i64 0, .slice none 0 0]) (results_row Try.results28 _ _ (w.heap.size) [.int .i64 kk, .int .i64 0, .slice none 0 0] _ rfl VF.out Try.underlying33 rfl (by kernel_rfl)) rfl ⟨none, 0, rfl, OwnTerm.none, BR.out⟩
  · have CB := Hid.mk (fun w h => bookOf_yes a n ca xs w h hn (by unfold maxLen; omega) hok h1)
    have hal : plsOk n zs = false := by unfold plsOk; rw [← hn]; exact h2
    have CA := Hid.mk (fun w c0 d0 h => arePlaces_ok c0 n d0 cc m dd zs w h hm (by unfold maxLen; omega) (by unfold maxLen; omega))
    rw [hal] at CA
    rw [hr]
    clear hr h1 h2 hal
    go_enter Try.func28, Try.ntmps28
    have B := Below.refl w.heap.size w
    replace ha := ha.kept (belowA w (.cells #[.int .i64 0, .int .i64 0, .slice none 0 0] 33))
    replace hR := hR.kept (belowA w (.cells #[.int .i64 0, .int .i64 0, .slice none 0 0] 33))
    replace B := thenB B (belowA w (.cells #[.int .i64 0, .int .i64 0, .slice none 0 0] 33))
    have VR := V.new w [.int .i64 0, .int .i64 0, .slice none 0 0] 33
    obtain ⟨s_VR, f_VR, z_VR⟩ := VR.open
    have Bo := B
    go_wp2_with fail
    refine (CB.out _ ha).mono ?_
    rintro e w81 ⟨p, g, c0, d0, rfl, H, b81⟩
    clear s_VR f_VR z_VR
    have S81 := b81.size
    simp only [World.size_alloc] at S81
    replace VR := VR.kept b81
    replace ha := ha.kept b81
    replace hR := hR.kept b81
    replace B := thenB B b81
    clear b81
    obtain ⟨s_VR, f_VR, z_VR⟩ := VR.open
    have Bo := B
    have VP := H.v
    rw [hn] at VP
    clear s_VR f_VR z_VR
    obtain ⟨s_VR, f_VR, z_VR⟩ := VR.open
    obtain ⟨s_VP, f_VP, z_VP⟩ := VP.open
    have Bo := B
    go_wp2_with fail
    refine (CA.out _ _ _ hR).mono ?_
    rintro e wq ⟨rfl, rfl⟩
    clear s_VR f_VR z_VR s_VP f_VP z_VP
    have VF := Hid.mk (VR.filled [.int .i64 3, .int .i64 0, .slice none 0 0] rfl)
    have HT := Hid.mk VR.there
    have BR := belowCells B (show w.heap.size ≤ w.heap.size by (first | omega | (simp; done) | (simp; omega))) 0 [.int .i64 3, .int .i64 0, .slice none 0 0]
    replace BR := Hid.mk BR
    obtain ⟨s_VR, f_VR, z_VR⟩ := VR.open
    obtain ⟨s_VP, f_VP, z_VP⟩ := VP.open
    go_wp2_with (refine wpList_store_mid rfl 33 _ _ rfl (w.heap.size) 0 #[.int .i64 3, .int .i64 0, .slice none 0 0] rfl rfl HT.out (by kernel_rfl) (by kernel_rfl) ?_)
    refine bodyPost_ret (v := .agg #[.int .i64 3, .int .i64 0, .slice none 0 0]) (results_row Try.results28 _ _ (w.heap.size) [.int .i64 3, .int .i64 0, .slice none 0 0] _ rfl VF.out Try.underlying33 rfl (by kernel_rfl)) rfl ⟨none, 0, rfl, OwnTerm.none, BR.out⟩
  · have CB := Hid.mk (fun w h => bookOf_yes a n ca xs w h hn (by unfold maxLen; omega) hok h1)
    have hal : plsOk n zs = true := by unfold plsOk; rw [← hn]; exact h2
    have hl4 := (tfC_zero h1).1
    have hzin := plsOk_iff.1 hal
    have CA := Hid.mk (fun w c0 d0 h => arePlaces_ok c0 n d0 cc m dd zs w h hm (by unfold maxLen; omega) (by unfold maxLen; omega))
    rw [hal] at CA
    rw [hr]
    have CL := Hid.mk (fun base p g c d w H hR hlb => putList_ok base p g c d xs cc m dd zs w H hl4 hR hm (by unfold maxLen; omega) (fun z hz => by have := hzin z hz; omega) hlb)
    have HBAD := plP_bad (xs := xs) zs
    clear hr h1 h2 hal hzin
    generalize plP xs zs = P at *
    obtain ⟨kc, kk, ls⟩ := P
    simp only at *
    obtain ⟨kl, hkl⟩ : ∃ m, ls.length = m := ⟨_, rfl⟩
    rw [hkl]
    replace hkl := Hid.mk hkl
    by_cases hkc : kc = 0
    · subst hkc
      clear HBAD
      go_enter Try.func28, Try.ntmps28
      have B := Below.refl w.heap.size w
      replace ha := ha.kept (belowA w (.cells #[.int .i64 0, .int .i64 0, .slice none 0 0] 33))
      replace hR := hR.kept (belowA w (.cells #[.int .i64 0, .int .i64 0, .slice none 0 0] 33))
      replace B := thenB B (belowA w (.cells #[.int .i64 0, .int .i64 0, .slice none 0 0] 33))
      have VR := V.new w [.int .i64 0, .int .i64 0, .slice none 0 0] 33
      obtain ⟨s_VR, f_VR, z_VR⟩ := VR.open
      have Bo := B
      go_wp2_with fail
      refine (CB.out _ ha).mono ?_
      rintro e w101 ⟨p, g, c0, d0, rfl, H, b101⟩
      clear s_VR f_VR z_VR
      have S101 := b101.size
      simp only [World.size_alloc] at S101
      replace VR := VR.kept b101
      replace ha := ha.kept b101
      replace hR := hR.kept b101
      replace B := thenB B b101
      clear b101
      obtain ⟨s_VR, f_VR, z_VR⟩ := VR.open
      have Bo := B
      have VP := H.v
      rw [hn] at VP
      clear s_VR f_VR z_VR
      obtain ⟨s_VR, f_VR, z_VR⟩ := VR.open
      obtain ⟨s_VP, f_VP, z_VP⟩ := VP.open
      have Bo := B
      go_wp2_with fail
      refine (CA.out _ _ _ hR).mono ?_
      rintro e wq ⟨rfl, rfl⟩
      have hlt0 := H.lt
      simp only [World.size_alloc] at hlt0
      have hlt := Hid.mk hlt0
      clear hlt0
      have hvr := VR.1
      have VRN : Hid (¬ BkX p g c0 w.heap.size) := Hid.mk (fun e => by have := (hlt.out _ e).1; omega)
      have hLB : Hid (∀ b : Addr, cc = some b → b.block < (w.alloc (.cells #[.int .i64 0, .int .i64 0, .slice none 0 0] 33)).heap.size) := Hid.mk (fun b hb => by have := HLW.out b hb; (try simp only [World.size_alloc]); omega)
      go_wp2_with fail
      refine (CL.out _ p g c0 d0 _ H hR hLB.out).mono ?_
      rintro e w9 ⟨c, d, ys, rfl, hys, H9, S9, -⟩
      clear s_VR f_VR z_VR s_VP f_VP z_VP
      replace VR := VR.sm S9 VRN.out
      have B9 := S9.below' B (by omega) (fun j hj => by have := (hlt.out j hj).1; omega)
      clear S9 H VP ha hR B Bo
      have B := B9
      clear B9
      have VP := H9.v
      obtain rfl := hys (by first | trivial | rfl)
      rw [hkl.out] at VP
      have CAA := Hid.mk (fun w h => answer_yes p g c kl d kk w h)
      obtain ⟨s_VR, f_VR, z_VR⟩ := VR.open
      have Bo := B
      go_wp2_with fail
      refine (CAA.out _ VP).mono ?_
      rintro e w102 ⟨rfl, b102⟩
      clear s_VR f_VR z_VR
      have S102 := b102.size
      replace VR := VR.kept b102
      replace H9 := H9.kept b102
      replace B := thenB B b102
      clear b102
      obtain ⟨s_VR, f_VR, z_VR⟩ := VR.open
      have Bo := B
      have OL := Hid.mk (fun b hb => (H9.o.lt b hb).1)
      clear s_VR f_VR z_VR
      have VF := Hid.mk (VR.filled [.int .i64 0, .int .i64 kk, .slice c kl d] rfl)
      have HT := Hid.mk VR.there
      have BR := belowCells B (show w.heap.size ≤ w.heap.size by (first | omega | (simp; done) | (simp; omega))) 0 [.int .i64 0, .int .i64 kk, .slice c kl d]
      replace BR := Hid.mk BR
      have HO := Hid.mk ((H9.o.mono (show w.heap.size ≤ _ by first | omega | (simp; done) | (simp; omega))).apart (B := w.heap.size) (by intro b hb; have := OL.out b hb; first | omega | (simp at this; omega)) 0 [.int .i64 0, .int .i64 kk, .slice c kl d])
      obtain ⟨s_VR, f_VR, z_VR⟩ := VR.open
      go_wp2_with (refine wpList_store_mid rfl 33 _ _ rfl (w.heap.size) 0 #[.int .i64 0, .int .i64 kk, .slice c kl d] rfl rfl HT.out (by kernel_rfl) (by kernel_rfl) ?_)
      refine bodyPost_ret (v := .agg #[.int .i64 0, .int .i64 kk, .slice c kl d]) (results_row Try.results28 _ _ (w.heap.size) [.int .i64 0, .int .i64 kk, .slice c kl d] _ rfl VF.out Try.underlying33 rfl (by kernel_rfl)) rfl ⟨c, d, rfl, HO.out, BR.out⟩
    · have HC := Hid.mk hkc
      have hb := HBAD hkc
      simp only [Put.mk.injEq, true_and] at hb
      obtain ⟨e1, e2⟩ := hb
      subst e1 e2
      obtain rfl : kl = 0 := hkl.out.symm
      clear hkc HBAD
      go_enter Try.func28, Try.ntmps28
      have B := Below.refl w.heap.size w
      replace ha := ha.kept (belowA w (.cells #[.int .i64 0, .int .i64 0, .slice none 0 0] 33))
      replace hR := hR.kept (belowA w (.cells #[.int .i64 0, .int .i64 0, .slice none 0 0] 33))
      replace B := thenB B (belowA w (.cells #[.int .i64 0, .int .i64 0, .slice none 0 0] 33))
      have VR := V.new w [.int .i64 0, .int .i64 0, .slice none 0 0] 33
      obtain ⟨s_VR, f_VR, z_VR⟩ := VR.open
      have Bo := B
      go_wp2_with fail
      refine (CB.out _ ha).mono ?_
      rintro e w121 ⟨p, g, c0, d0, rfl, H, b121⟩
      clear s_VR f_VR z_VR
      have S121 := b121.size
      simp only [World.size_alloc] at S121
      replace VR := VR.kept b121
      replace ha := ha.kept b121
      replace hR := hR.kept b121
      replace B := thenB B b121
      clear b121
      obtain ⟨s_VR, f_VR, z_VR⟩ := VR.open
      have Bo := B
      have VP := H.v
      rw [hn] at VP
      clear s_VR f_VR z_VR
      obtain ⟨s_VR, f_VR, z_VR⟩ := VR.open
      obtain ⟨s_VP, f_VP, z_VP⟩ := VP.open
      have Bo := B
      go_wp2_with fail
      refine (CA.out _ _ _ hR).mono ?_
      rintro e wq ⟨rfl, rfl⟩
      have hlt0 := H.lt
      simp only [World.size_alloc] at hlt0
      have hlt := Hid.mk hlt0
      clear hlt0
      have hvr := VR.1
      have VRN : Hid (¬ BkX p g c0 w.heap.size) := Hid.mk (fun e => by have := (hlt.out _ e).1; omega)
      have hLB : Hid (∀ b : Addr, cc = some b → b.block < (w.alloc (.cells #[.int .i64 0, .int .i64 0, .slice none 0 0] 33)).heap.size) := Hid.mk (fun b hb => by have := HLW.out b hb; (try simp only [World.size_alloc]); omega)
      go_wp2_with fail
      refine (CL.out _ p g c0 d0 _ H hR hLB.out).mono ?_
      rintro e w9 ⟨c, d, ys, rfl, hys, H9, S9, -⟩
      clear s_VR f_VR z_VR s_VP f_VP z_VP
      replace VR := VR.sm S9 VRN.out
      have B9 := S9.below' B (by omega) (fun j hj => by have := (hlt.out j hj).1; omega)
      clear S9 H VP ha hR B Bo
      have B := B9
      clear B9
      have VP := H9.v
      clear hys
      have CAA := Hid.mk (fun w h => answer_no p g c ys.length d kc HC.out w h)
      obtain ⟨s_VR, f_VR, z_VR⟩ := VR.open
      have Bo := B
      go_wp2_with fail
      refine (CAA.out _ VP).mono ?_
      rintro e w122 ⟨rfl, b122⟩
      clear s_VR f_VR z_VR
      have S122 := b122.size
      replace VR := VR.kept b122
      replace B := thenB B b122
      clear b122
      obtain ⟨s_VR, f_VR, z_VR⟩ := VR.open
      have Bo := B
      clear s_VR f_VR z_VR
      have VF := Hid.mk (VR.filled [.int .i64 kc, .int .i64 0, .slice none 0 0] rfl)
      have HT := Hid.mk VR.there
      have BR := belowCells B (show w.heap.size ≤ w.heap.size by (first | omega | (simp; done) | (simp; omega))) 0 [.int .i64 kc, .int .i64 0, .slice none 0 0]
      replace BR := Hid.mk BR
      obtain ⟨s_VR, f_VR, z_VR⟩ := VR.open
      go_wp2_with (refine wpList_store_mid rfl 33 _ _ rfl (w.heap.size) 0 #[.int .i64 kc, .int .i64 0, .slice none 0 0] rfl rfl HT.out (by kernel_rfl) (by kernel_rfl) ?_)
      refine bodyPost_ret (v := .agg #[.int .i64 kc, .int .i64 0, .slice none 0 0]) (results_row Try.results28 _ _ (w.heap.size) [.int .i64 kc, .int .i64 0, .slice none 0 0] _ rfl VF.out Try.underlying33 rfl (by kernel_rfl)) rfl ⟨none, 0, rfl, OwnTerm.none, BR.out⟩

end Go.Proofs.Ythkmoabkeblbjaa
