/- 'TakeParts', the model's and the program's, by contracts. -/
import Derived.Test.YtnclfbliimcpgaaCutS
namespace Go.Proofs.Ytnclfbliimcpgaa
open Go.RowKit

set_option maxHeartbeats 1000000 in
theorem specTakeParts_ok (a : Option Addr) (n ca : Nat) (zs : List Int) (k : Int) (zss : List (List Int)) (hk : tpOf zs k zss) (w : World) (ha : Rd .u8 w a zs) (hb : Bytes zs) (hn : zs.length = n) (hx : n ≤ 1048576) (hca : n ≤ ca) :
    Calls Try.prog 23 #[.slice a n ca] w fun e w' => ∃ c d ps, e = .returned (.agg #[.int .i64 k, .slice c ps.length d]) ∧ lotsOf ps = zss ∧ OwnT w' w.heap.size c d ps ∧ Below w.heap.size w w' := by
  by_cases hbig : 400 < n
  · obtain ⟨rfl, rfl⟩ := hk.1 (by omega)
    have h1 : (400 : Int) < (n : Int) := by omega
    go_enter Try.func23, Try.ntmps23
    go_wp2
    refine bodyPost_ret (v := .agg #[.int .i64 2, .slice none 0 0]) (by simp [results, Try.results23, go_sem]) rfl ⟨none, 0, [], rfl, rfl, OwnT.nil, belowA _ _⟩
  · have h1 : (n : Int) ≤ 400 := by omega
    have HK := Hid.mk hk.2
    have HN := Hid.mk hn
    clear hk
    go_enter Try.func23, Try.ntmps23
    go_wp2_with fail
    refine (l1Parts_ok a n ca zs _ (ha.kept (belowA _ _)) hb hn hx hca).mono ?_
    rintro e w1 ⟨b1, ⟨hc, rfl⟩ | ⟨c, d, ps, hc, rfl, o1⟩⟩
    · obtain ⟨rfl, rfl⟩ := HK.out.1 (by have := HN.out; omega) hc
      obtain ⟨hc1, hf1⟩ := bcell b1
      have hz1 := b1.size
      go_wp2
      refine bodyPost_ret (v := .agg #[.int .i64 5, .slice none 0 0]) (by simp [results, Try.results23, go_sem, hc1]) rfl ⟨none, 0, [], rfl, rfl, OwnT.nil, ?_⟩
      exact (((belowA _ _).trans (b1.mono (by simp))).setCell (by simp) _).setCell (by simp) _
    · obtain ⟨rfl, h2⟩ := HK.out.2 (by have := HN.out; omega) _ hc
      have H2 := Hid.mk h2
      obtain ⟨hc1, hf1⟩ := bcell b1
      have hz1 := b1.size
      clear h2 hc
      go_wp2
      refine bodyPost_ret (v := .agg #[.int .i64 0, .slice c ps.length d]) (by simp [results, Try.results23, go_sem, hc1]) rfl ⟨c, d, ps, rfl, H2.out.symm, ?_, ?_⟩
      · exact ((o1.below (by simp) _).below (by simp) _).mono (by simp)
      · exact (((belowA _ _).trans (b1.mono (by simp))).setCell (by simp) _).setCell (by simp) _

def lenOf : Value → Nat
  | .slice _ n _ => n
  | _ => 0

set_option maxRecDepth 20000 in
set_option maxHeartbeats 4000000 in
theorem implTakeParts_ok (a : Option Addr) (n ca : Nat) (zs : List Int) (kk : Int) (zss : List (List Int)) (hkk : tpOf zs kk zss) (w : World) (ha : Rd .u8 w a zs) (hb : Bytes zs) (hn : zs.length = n) (hx : n ≤ 1048576) (hca : n ≤ ca) :
    Calls Try.prog 21 #[.slice a n ca] w fun e w' => ∃ c d ps, e = .returned (.agg #[.int .i64 kk, .slice c ps.length d]) ∧ lotsOf ps = zss ∧ OwnT w' w.heap.size c d ps ∧ Below w.heap.size w w' := by
  obtain ⟨j0, hj, j1, j2, j3⟩ := info_parts Try.info_row
  by_cases hbig : 400 < n
  · obtain ⟨rfl, rfl⟩ := hkk.1 (by omega)
    have h1 : (400 : Int) < (n : Int) := by omega
    go_enter Try.func21, Try.ntmps21
    go_wp2
    refine bodyPost_ret (v := .agg #[.int .i64 2, .slice none 0 0]) (by simp [results, Try.results21, go_sem]) rfl ⟨none, 0, [], rfl, rfl, OwnT.nil, belowA _ _⟩
  · have h1 : (n : Int) ≤ 400 := by omega
    have hn4 : n ≤ 400 := by omega
    have HK := Hid.mk hkk.2
    have HN := Hid.mk hn
    obtain ⟨cc, hcc⟩ : ∃ cc, cutN 20 zs = cc := ⟨_, rfl⟩
    rw [hcc] at HK
    clear hkk hbig
    go_enter Try.func21, Try.ntmps21
    go_wp2
    go_loopw [3, 4] (fun v r wr => ∃ (m cr d : Nat) (x c : Option Addr) (xs : List Int) (ps : List Lot), r = .slice x m cr ∧ v = .slice c ps.length d ∧ m ≤ n ∧ m ≤ cr ∧ ps.length ≤ 20 ∧ xs.length = m ∧ Rd .u8 w x xs ∧ Bytes xs ∧ OwnT wr (w.heap.size + 1) c d ps ∧ Below (w.heap.size + 1) (w.alloc (.cells #[.int .i64 0, .slice none 0 0] 38)) wr ∧ cc = (cutN (20 - ps.length) xs).map (lotsOf ps ++ ·)) (fun _ r _ => lenOf r)
    case atStart => exact ⟨n, ca, 0, a, none, zs, [], rfl, rfl, Nat.le_refl _, hca, by simp, hn, ha, hb, OwnT.nil, Below.refl _ _, by simp [lotsOf, hcc]⟩
    case round =>
      obtain ⟨m, cr, d, x, c, xs, ps, rfl, rfl, hmn, hmc, hl, hxl, hR, hB0, hO, hB, hcut⟩ := hrel
      have hBw : Below w.heap.size w wr := (belowA w _).trans (hB.mono (by omega))
      obtain ⟨hc1, hf1⟩ := bcell (W := w.alloc (.cells #[.int .i64 0, .slice none 0 0] 38)) (w1 := wr) (by simpa using hB)
      have hz1 : w.heap.size + 1 ≤ wr.heap.size := by have := hB.size; simpa using this
      by_cases hlt : 0 < m
      · rcases hR with hR | ⟨b1, o1, rfl, hcell⟩
        · simp [hR] at hxl; omega
        have h0 := hcell 0 (by omega)
        rw [Nat.add_zero] at h0
        have h2 := (hBw.cell (World.block_lt_of_cell? (a := ⟨b1, o1, none⟩) w h0)).trans h0
        obtain ⟨hz1', hz2⟩ := hB0.at 0
        obtain ⟨zn, hzn⟩ := Int.eq_ofNat_of_zero_le hz1'
        rw [hzn] at h2 hz2
        have R0 := Hid.mk (fun q m => Rd.off hcell q m)
        have HZ := Hid.mk hzn
        have HC := Hid.mk hcut
        have HO := Hid.mk hO
        have HL := Hid.mk hxl
        have HB := Hid.mk (show Bytes (xs.drop (1 + zn)) from fun z hz => hB0 z (List.mem_of_mem_drop hz))
        obtain ⟨k, hk⟩ : ∃ k, ps.length = k := ⟨_, rfl⟩
        have HK2 := Hid.mk hk
        rw [hk] at hl HC ⊢
        have hp1 : (0 : Int) < (m : Int) := by omega
        clear hcell h0 hz1' hzn hcut hO hxl hB0 hk hb
        by_cases hbig : m < 1 + zn
        · have hb1 : (m : Int) < 1 + (zn : Int) := by omega
          obtain ⟨rfl, rfl⟩ := HK.out.1 (by have := HN.out; omega) (cut_over (p := 0) HC.out (by have := HL.out; omega) HZ.out (by have := HL.out; omega))
          go_wp2
          refine bodyPost_ret (v := .agg #[.int .i64 5, .slice none 0 0]) (by simp [results, Try.results21, go_sem, hc1]) rfl ⟨none, 0, [], rfl, rfl, OwnT.nil, (hBw.setCell (by simp) _).setCell (by simp) _⟩
        · have hb1 : 1 + (zn : Int) ≤ (m : Int) := by omega
          have hle : 1 + zn ≤ m := by omega
          clear hbig
          by_cases h20 : k = 20
          · have he : ((k : Int) == 20) = true := by rw [beq_iff_eq]; omega
            obtain ⟨rfl, rfl⟩ := HK.out.1 (by have := HN.out; omega) (cut_full (p := 0) HC.out (by have := HL.out; omega) (by omega))
            go_wp2
            refine bodyPost_ret (v := .agg #[.int .i64 5, .slice none 0 0]) (by simp [results, Try.results21, go_sem, hc1]) rfl ⟨none, 0, [], rfl, rfl, OwnT.nil, (hBw.setCell (by simp) _).setCell (by simp) _⟩
          · have he : ((k : Int) == 20) = false := by rw [beq_eq_false_iff_ne]; omega
            obtain ⟨t, ht⟩ : ∃ t, 20 - k = t + 1 := ⟨20 - k - 1, by omega⟩
            rw [ht] at HC
            have HS := Hid.mk (cut_step (p := 0) HC.out (by have := HL.out; omega) HZ.out (by have := HL.out; omega))
            have HM := Hid.mk (show 20 - (k + 1) = t by omega)
            have hk20 : k + 1 ≤ 20 := by omega
            have hk1 : k + 1 ≤ maxLen := by unfold maxLen; omega
            have hlen := Hid.mk (show ((xs.drop 1).take zn).length = zn by have := HL.out; simp; omega)
            have hlen2 := Hid.mk (show (xs.drop (1 + zn)).length = m - (1 + zn) by have := HL.out; simp; omega)
            have R1 := Hid.mk (R0.out 1 zn)
            have R2 : Hid (Rd .u8 w (some ⟨b1, o1 + (1 + zn), none⟩) (xs.drop (1 + zn))) := by
              have h := R0.out (1 + zn) (m - (1 + zn))
              rw [List.take_of_length_le (by rw [hlen2.out]; exact Nat.le_refl _)] at h
              exact h
            rw [show 0 + 1 = 1 from rfl] at HS
            clear h20 ht HC
            rcases (by omega : (cr = 1 ∧ m = 1 ∧ zn = 0) ∨ (¬ cr = 1 ∧ cr = 1 + zn ∧ m = 1 + zn) ∨ (¬ cr = 1 ∧ ¬ cr = 1 + zn)) with ⟨rfl, rfl, rfl⟩ | ⟨hcr, rfl, rfl⟩ | ⟨hcr, hcr2⟩
            · go_wp2_with fail
              refine (clone_ok _ _ _ ((xs.drop 1).take 0) _ (.inl (by simp)) hlen.out (by omega)).mono ?_
              rintro e w1 ⟨c1, d1, rfl, o2, hb1'⟩
              have O2 := HO.out.kept hb1'
              have hz3 := hb1'.size
              have hok := O2.1
              rw [HK2.out] at hok
              have HO1 := Hid.mk o2
              clear o2 hc1 hf1
              go_wp2_with (at_builtin; refine wpList_append_lies _ rfl _ _ 36 rfl (w.heap.size + 1) 22 j0 (.slice none 0 0) 1 24 Try.underlying36 hj j1 j2 j3 rfl (by decide) _ k (ps.map rowT) rfl (hok.alloc _) ⟨w1.heap.size, 0, none⟩ 1 1 [.slice c1 0 d1] rfl rfl (cell_one' _ _ _) (by intro u hu; simp at hu; subst hu; rfl) (by omega) hk1 (by omega) (by simp; omega) (w1.heap.size + 1) (by simp) ?_)
              intro g cap w2 hown2 hg2 hat hlt2
              have hrow : rowT (c1, d1, ((xs.drop 1).take 0)) = .slice c1 0 d1 := by simp only [rowT, hlen.out]
              have eb : (Value.slice c k d).ownBlock = c.map Addr.block := by cases c <;> rfl
              rw [eb] at hat hg2
              rw [← hrow] at hown2
              have hb2 : Below (w.heap.size + 1) (w.alloc (.cells #[.int .i64 0, .slice none 0 0] 38)) w2 := ((hB.trans (hb1'.mono hz1)).alloc (by omega) _).grown hg2 (by simp; omega) fun i hi => (hok.lt i (by rw [eb]; exact hi)).1
              have ON := Hid.mk (HO.out.add (p := (c1, d1, ((xs.drop 1).take 0))) hb1' HO1.out hz1 (by rw [HK2.out]; exact hown2) hg2 hat rfl)
              have HB2 := Hid.mk hb2
              clear hown2 hg2 hat O2 hok hrow hb2 eb
              go_wp2
              go_roundw
              case rel =>
                refine ⟨_, _, cap, _, _, (xs.drop (1 + 0)), ps ++ [(c1, d1, ((xs.drop 1).take 0))], rfl, by simp [HK2.out], by omega, by omega, by simp [HK2.out]; omega, by rw [hlen2.out], (.inl (List.eq_nil_of_length_eq_zero (by rw [hlen2.out]))), HB.out, ON.out, HB2.out, ?_⟩
                rw [show (ps ++ [(c1, d1, ((xs.drop 1).take 0))]).length = k + 1 by simp [HK2.out], HM.out, lotsOf_append]
                exact HS.out
              case measure => first | (simp [lenOf]; done) | (simp [lenOf]; omega)
            · go_wp2_with fail
              refine (clone_ok _ _ _ ((xs.drop 1).take zn) _ (R1.out.kept hBw) hlen.out (by omega)).mono ?_
              rintro e w1 ⟨c1, d1, rfl, o2, hb1'⟩
              have O2 := HO.out.kept hb1'
              have hz3 := hb1'.size
              have hok := O2.1
              rw [HK2.out] at hok
              have HO1 := Hid.mk o2
              clear o2 hc1 hf1
              go_wp2_with (at_builtin; refine wpList_append_lies _ rfl _ _ 36 rfl (w.heap.size + 1) 22 j0 (.slice none 0 0) 1 24 Try.underlying36 hj j1 j2 j3 rfl (by decide) _ k (ps.map rowT) rfl (hok.alloc _) ⟨w1.heap.size, 0, none⟩ 1 1 [.slice c1 zn d1] rfl rfl (cell_one' _ _ _) (by intro u hu; simp at hu; subst hu; rfl) (by omega) hk1 (by omega) (by simp; omega) (w1.heap.size + 1) (by simp) ?_)
              intro g cap w2 hown2 hg2 hat hlt2
              have hrow : rowT (c1, d1, ((xs.drop 1).take zn)) = .slice c1 zn d1 := by simp only [rowT, hlen.out]
              have eb : (Value.slice c k d).ownBlock = c.map Addr.block := by cases c <;> rfl
              rw [eb] at hat hg2
              rw [← hrow] at hown2
              have hb2 : Below (w.heap.size + 1) (w.alloc (.cells #[.int .i64 0, .slice none 0 0] 38)) w2 := ((hB.trans (hb1'.mono hz1)).alloc (by omega) _).grown hg2 (by simp; omega) fun i hi => (hok.lt i (by rw [eb]; exact hi)).1
              have ON := Hid.mk (HO.out.add (p := (c1, d1, ((xs.drop 1).take zn))) hb1' HO1.out hz1 (by rw [HK2.out]; exact hown2) hg2 hat rfl)
              have HB2 := Hid.mk hb2
              clear hown2 hg2 hat O2 hok hrow hb2 eb
              go_wp2
              go_roundw
              case rel =>
                refine ⟨_, _, cap, _, _, (xs.drop (1 + zn)), ps ++ [(c1, d1, ((xs.drop 1).take zn))], rfl, by simp [HK2.out], by omega, by omega, by simp [HK2.out]; omega, by rw [hlen2.out], (.inl (List.eq_nil_of_length_eq_zero (by rw [hlen2.out]; exact Nat.sub_self _))), HB.out, ON.out, HB2.out, ?_⟩
                rw [show (ps ++ [(c1, d1, ((xs.drop 1).take zn))]).length = k + 1 by simp [HK2.out], HM.out, lotsOf_append]
                exact HS.out
              case measure => first | (simp [lenOf]; done) | (simp [lenOf]; omega)
            · go_wp2_with fail
              refine (clone_ok _ _ _ ((xs.drop 1).take zn) _ (R1.out.kept hBw) hlen.out (by omega)).mono ?_
              rintro e w1 ⟨c1, d1, rfl, o2, hb1'⟩
              have O2 := HO.out.kept hb1'
              have hz3 := hb1'.size
              have hok := O2.1
              rw [HK2.out] at hok
              have HO1 := Hid.mk o2
              clear o2 hc1 hf1
              go_wp2_with (at_builtin; refine wpList_append_lies _ rfl _ _ 36 rfl (w.heap.size + 1) 22 j0 (.slice none 0 0) 1 24 Try.underlying36 hj j1 j2 j3 rfl (by decide) _ k (ps.map rowT) rfl (hok.alloc _) ⟨w1.heap.size, 0, none⟩ 1 1 [.slice c1 zn d1] rfl rfl (cell_one' _ _ _) (by intro u hu; simp at hu; subst hu; rfl) (by omega) hk1 (by omega) (by simp; omega) (w1.heap.size + 1) (by simp) ?_)
              intro g cap w2 hown2 hg2 hat hlt2
              have hrow : rowT (c1, d1, ((xs.drop 1).take zn)) = .slice c1 zn d1 := by simp only [rowT, hlen.out]
              have eb : (Value.slice c k d).ownBlock = c.map Addr.block := by cases c <;> rfl
              rw [eb] at hat hg2
              rw [← hrow] at hown2
              have hb2 : Below (w.heap.size + 1) (w.alloc (.cells #[.int .i64 0, .slice none 0 0] 38)) w2 := ((hB.trans (hb1'.mono hz1)).alloc (by omega) _).grown hg2 (by simp; omega) fun i hi => (hok.lt i (by rw [eb]; exact hi)).1
              have ON := Hid.mk (HO.out.add (p := (c1, d1, ((xs.drop 1).take zn))) hb1' HO1.out hz1 (by rw [HK2.out]; exact hown2) hg2 hat rfl)
              have HB2 := Hid.mk hb2
              clear hown2 hg2 hat O2 hok hrow hb2 eb
              go_wp2
              go_roundw
              case rel =>
                refine ⟨_, _, cap, _, _, (xs.drop (1 + zn)), ps ++ [(c1, d1, ((xs.drop 1).take zn))], rfl, by simp [HK2.out], by omega, by omega, by simp [HK2.out]; omega, hlen2.out, R2.out, HB.out, ON.out, HB2.out, ?_⟩
                rw [show (ps ++ [(c1, d1, ((xs.drop 1).take zn))]).length = k + 1 by simp [HK2.out], HM.out, lotsOf_append]
                exact HS.out
              case measure => first | (simp [lenOf]; done) | (simp [lenOf]; omega)
      · have hm0 : m = 0 := by omega
        subst hm0
        obtain ⟨rfl, h2⟩ := HK.out.2 (by have := HN.out; omega) _ (cut_end (p := 0) hcut (by omega))
        have H2 := Hid.mk h2
        clear h2 hcut hb
        go_wp2
        refine bodyPost_ret (v := .agg #[.int .i64 0, .slice c ps.length d]) (by simp [results, Try.results21, go_sem, hc1]) rfl ⟨c, d, ps, rfl, H2.out.symm, ?_, ?_⟩
        · exact ((hO.below (by simp) _).below (by simp) _).mono (by simp)
        · exact (hBw.setCell (by simp) _).setCell (by simp) _

end Go.Proofs.Ytnclfbliimcpgaa
