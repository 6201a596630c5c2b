/- The model's 'TakeParts', by its contract. -/
import Derived.Test.YtnclfbliimcpgaaCut
namespace Go.Proofs.Ytnclfbliimcpgaa
open Go.RowKit

theorem drop_cons' (zs : List Int) (p : Nat) (h : p < zs.length) : zs.drop p = zs.getD p 0 :: zs.drop (p + 1) := by
  rw [List.drop_eq_getElem_cons h]
  simp [List.getD, h]

/-- One part more: what is left to cut. -/
theorem cut_step {zs : List Int} {acc : List (List Int)} {p zn m : Nat} {cc : Option (List (List Int))} (h : cc = (cutN (m + 1) (zs.drop p)).map (acc ++ ·)) (hp : p < zs.length) (hz : zs.getD p 0 = (zn : Int)) (hle : p + 1 + zn ≤ zs.length) :
    cc = (cutN m (zs.drop (p + 1 + zn))).map ((acc ++ [(zs.drop (p + 1)).take zn]) ++ ·) := by
  rw [h, drop_cons' zs p hp, hz, cutN_next _ _ _ (by simp; omega)]
  simp [Option.map_map, Function.comp_def, List.drop_drop]

theorem cut_over {zs : List Int} {acc : List (List Int)} {p zn m : Nat} {cc : Option (List (List Int))} (h : cc = (cutN m (zs.drop p)).map (acc ++ ·)) (hp : p < zs.length) (hz : zs.getD p 0 = (zn : Int)) (hle : zs.length < p + 1 + zn) : cc = none := by
  rw [h, drop_cons' zs p hp, hz, cutN_over _ _ _ (by simp; omega)]
  rfl

theorem cut_full {zs : List Int} {acc : List (List Int)} {p m : Nat} {cc : Option (List (List Int))} (h : cc = (cutN m (zs.drop p)).map (acc ++ ·)) (hp : p < zs.length) (hm : m = 0) : cc = none := by
  rw [h, drop_cons' zs p hp, hm]
  rfl

theorem cut_end {zs : List Int} {acc : List (List Int)} {p m : Nat} {cc : Option (List (List Int))} (h : cc = (cutN m (zs.drop p)).map (acc ++ ·)) (hp : zs.length ≤ p) : cc = some acc := by
  rw [h, List.drop_eq_nil_of_le hp, cutN_nil]
  simp

theorem made_u8 (w : World) : (w.alloc (.cells #[] 5)).ownsRow w.heap.size 5 1 (.slice (some ⟨w.heap.size, 0, none⟩) 0 0) 0 (([] : List Int).map (Value.int .u8)) := by
  simpa using World.ownsRow_made (base := w.heap.size) (e := 5) (size := 1) w #[] 0 (Nat.le_refl _) (Nat.zero_le _) rfl

theorem OwnT.made (w : World) : OwnT (w.alloc (.cells #[] 22)) w.heap.size (some ⟨w.heap.size, 0, none⟩) 0 [] :=
  ⟨by simpa using World.ownsRow_made (base := w.heap.size) (e := 22) (size := 1) w #[] 0 (Nat.le_refl _) (Nat.zero_le _) rfl, by simp, List.Pairwise.nil⟩

set_option maxRecDepth 20000 in
set_option maxHeartbeats 4000000 in
theorem l1Parts_ok (a : Option Addr) (n ca : Nat) (zs : List Int) (w : World) (ha : Rd .u8 w a zs) (hb : Bytes zs) (hn : zs.length = n) (hx : n ≤ 1048576) (hca : n ≤ ca) :
    Calls Try.prog 50 #[.slice a n ca] w fun e w' => Below w.heap.size w w' ∧ ((cutN 20 zs = none ∧ e = .returned (.tuple #[.slice none 0 0, .bool false])) ∨
      ∃ c d ps, cutN 20 zs = some (lotsOf ps) ∧ e = .returned (.tuple #[.slice c ps.length d, .bool true]) ∧ OwnT w' w.heap.size c d ps) := by
  obtain ⟨i0, hi, g0, g1, g2⟩ := info_parts Try.info_u8
  obtain ⟨j0, hj, j1, j2, j3⟩ := info_parts Try.info_row
  obtain ⟨cc, hcc⟩ : ∃ cc, cutN 20 zs = cc := ⟨_, rfl⟩
  rw [hcc]
  go_enter Try.func50, Try.ntmps50
  go_wp2
  go_loopw [4, 5] (fun v i wr => ∃ (p d : Nat) (c : Option Addr) (ps : List Lot), p ≤ n ∧ i = .int .i64 p ∧ v = .slice c ps.length d ∧ ps.length ≤ 20 ∧ OwnT wr w.heap.size c d ps ∧ Below w.heap.size w wr ∧ cc = (cutN (20 - ps.length) (zs.drop p)).map (lotsOf ps ++ ·)) (fun _ i _ => n - (intOf i).toNat)
  case atStart => exact ⟨0, 0, _, [], Nat.zero_le _, rfl, rfl, by simp, OwnT.made w, belowA _ _, by simp [lotsOf, hcc]⟩
  case round =>
    obtain ⟨p, d, c, ps, hp, rfl, rfl, hl, hO, hB, hcut⟩ := hrel
    by_cases hlt : p < n
    · rcases ha with ha | ⟨b1, o1, rfl, hcell⟩
      · simp [ha] at hn; omega
      have h0 := hcell p (by omega)
      have h1 := (hB.cell (World.block_lt_of_cell? (a := ⟨b1, o1 + p, none⟩) w h0)).trans h0
      obtain ⟨hz1, hz2⟩ := hb.at p
      obtain ⟨zn, hzn⟩ := Int.eq_ofNat_of_zero_le hz1
      rw [hzn] at h1 hz2
      have R0 := Hid.mk (fun q m => (Rd.off hcell q m).kept (hB.mono (Nat.le_refl _)))
      have HZ := Hid.mk hzn
      have HC := Hid.mk hcut
      have HO := Hid.mk hO
      have HN := Hid.mk hn
      have HX := Hid.mk (show ∀ q m, q + m ≤ n → ((zs.drop q).take m).length = m from fun q m h => by simp; omega)
      obtain ⟨k, hk⟩ : ∃ k, ps.length = k := ⟨_, rfl⟩
      have HK := Hid.mk hk
      rw [hk] at hl HC ⊢
      have hp1 : (p : Int) < (n : Int) := by omega
      clear hcell h0 hz1 hzn hcut hO hn hb hk
      by_cases hbig : n < p + 1 + zn
      · have hb1 : (n : Int) < (p : Int) + 1 + (zn : Int) := by omega
        have HF := Hid.mk (cut_over HC.out (by have := HN.out; omega) HZ.out (by have := HN.out; omega))
        go_wp2
        refine bodyPost_ret (v := .tuple #[.slice none 0 0, .bool false]) (by simp [results, Try.results50, go_sem]) rfl ⟨hB, .inl ⟨HF.out, rfl⟩⟩
      · have hb1 : (p : Int) + 1 + (zn : Int) ≤ (n : Int) := by omega
        have hle : p + 1 + zn ≤ n := by omega
        clear hbig
        by_cases h20 : k = 20
        · have he : ((k : Int) == 20) = true := by rw [beq_iff_eq]; omega
          have HF := Hid.mk (cut_full HC.out (by have := HN.out; omega) (by omega))
          go_wp2
          refine bodyPost_ret (v := .tuple #[.slice none 0 0, .bool false]) (by simp [results, Try.results50, go_sem]) rfl ⟨hB, .inl ⟨HF.out, rfl⟩⟩
        · have he : ((k : Int) == 20) = false := by rw [beq_eq_false_iff_ne]; omega
          obtain ⟨m, hm⟩ : ∃ m, 20 - k = m + 1 := ⟨20 - k - 1, by omega⟩
          rw [hm] at HC
          have HS := Hid.mk (cut_step HC.out (by have := HN.out; omega) HZ.out (by have := HN.out; omega))
          have HM := Hid.mk (show 20 - (k + 1) = m by omega)
          clear hm
          have R1 := Hid.mk ((R0.out (p + 1) zn).kept (belowA wr (.cells #[] 5)))
          have hlen := Hid.mk (HX.out (p + 1) zn hle)
          have hx2 : 0 + zn ≤ 140737488355328 := by omega
          generalize ((zs.drop (p + 1)).take zn) = ys at *
          have hk20 : k + 1 ≤ 20 := by omega
          clear h20
          by_cases hcap : ca = p + 1
          · have hzn : zn = 0 := by omega
            subst hzn
            have hys := List.eq_nil_of_length_eq_zero hlen.out
            have R2 : Rd .u8 (wr.alloc (.cells #[] 5)) (some ⟨b1, o1, none⟩) ys := .inl hys
            clear hys
            go_wp2_with (at_builtin; refine wpList_append_rd _ rfl _ _ 22 rfl wr.heap.size 5 i0 Try.underlying22 hi g0 g1 g2 _ 0 [] rfl (made_u8 wr) (some ⟨b1, o1, none⟩) 0 0 ys rfl R2 hlen.out (fun _ => rfl) (by omega) (by simp) ?_)
            intro v1 w1 hown hg
            have hb1 := (belowA wr (.cells #[] 5)).grown hg (by simp) (by simp [Value.ownBlock])
            have hown' : w1.ownsRow wr.heap.size 5 1 v1 0 (ys.map (Value.int .u8)) := by simpa using hown
            obtain ⟨c1, d1, rfl⟩ := ownsRow_shape hown'
            have HO1 := Hid.mk (Own.mk hown' hlen.out)
            have O2 := HO.out.kept hb1
            have hz := hB.size
            have hz1 := hb1.size
            have hok := O2.1
            rw [HK.out] at hok
            have hk1 : k + 1 ≤ maxLen := by unfold maxLen; omega
            clear hown hown' hg
            go_wp2_with (at_builtin; refine wpList_append_lies _ rfl _ _ 36 rfl w.heap.size 22 j0 (.slice none 0 0) 1 24 Try.underlying36 hj j1 j2 j3 rfl (by decide) _ k (ps.map rowT) rfl (hok.alloc _) ⟨w1.heap.size, 0, none⟩ 1 1 [.slice c1 0 d1] rfl rfl (cell_one' _ _ _) (by intro u hu; simp at hu; subst hu; rfl) (by omega) hk1 (by omega) (by simp; omega) (w1.heap.size + 1) (by simp) ?_)
            intro g cap w2 hown2 hg2 hat hlt2
            have hrow : rowT (c1, d1, ys) = .slice c1 0 d1 := by simp [rowT, hlen.out]
            have eb : (Value.slice c k d).ownBlock = c.map Addr.block := by cases c <;> rfl
            rw [eb] at hat hg2
            rw [← hrow] at hown2
            have hb2 : Below w.heap.size w w2 := ((hB.trans (hb1.mono hz)).alloc (by omega) _).grown hg2 (by simp; omega) fun i hi => (hok.lt i (by rw [eb]; exact hi)).1
            have ON := Hid.mk (HO.out.add (p := (c1, d1, ys)) hb1 HO1.out hz (by rw [HK.out]; exact hown2) hg2 hat rfl)
            have hbz := hb2.size
            clear hown2 hg2 hat O2 hok hrow
            go_wp2
            rw [← hcap]
            go_roundw
            case rel => exact ⟨p + 1 + 0, cap, _, ps ++ [(c1, d1, ys)], by omega, by go_num, by simp [HK.out], by simp [HK.out]; omega, ON.out, hb2, by
              rw [show (ps ++ [(c1, d1, ys)]).length = k + 1 by simp [HK.out], HM.out, lotsOf_append]
              exact HS.out⟩
            case measure => simp [intOf]; omega
          · have hsub : p + 1 + zn - (p + 1) = zn := by omega
            go_wp2_with (at_builtin; refine wpList_append_rd _ rfl _ _ 22 rfl wr.heap.size 5 i0 Try.underlying22 hi g0 g1 g2 _ 0 [] rfl (made_u8 wr) (some ⟨b1, o1 + (p + 1), none⟩) (p + 1 + zn - (p + 1)) (ca - (p + 1)) ys rfl R1.out (by rw [hlen.out, hsub]) (fun h => by cases h) (by rw [hsub]; exact hx2) (by simp) ?_)
            intro v1 w1 hown hg
            have hb1 := (belowA wr (.cells #[] 5)).grown hg (by simp) (by simp [Value.ownBlock])
            have hown' : w1.ownsRow wr.heap.size 5 1 v1 zn (ys.map (Value.int .u8)) := by simpa [hsub] using hown
            obtain ⟨c1, d1, rfl⟩ := ownsRow_shape hown'
            have HO1 := Hid.mk (Own.mk hown' hlen.out)
            have O2 := HO.out.kept hb1
            have hz := hB.size
            have hz1 := hb1.size
            have hok := O2.1
            rw [HK.out] at hok
            have hk1 : k + 1 ≤ maxLen := by unfold maxLen; omega
            clear hown hown' hg
            go_wp2_with (at_builtin; refine wpList_append_lies _ rfl _ _ 36 rfl w.heap.size 22 j0 (.slice none 0 0) 1 24 Try.underlying36 hj j1 j2 j3 rfl (by decide) _ k (ps.map rowT) rfl (hok.alloc _) ⟨w1.heap.size, 0, none⟩ 1 1 [.slice c1 zn d1] rfl rfl (cell_one' _ _ _) (by intro u hu; simp at hu; subst hu; rfl) (by omega) hk1 (by omega) (by simp; omega) (w1.heap.size + 1) (by simp) ?_)
            intro g cap w2 hown2 hg2 hat hlt2
            have hrow : rowT (c1, d1, ys) = .slice c1 zn d1 := by simp [rowT, hlen.out]
            have eb : (Value.slice c k d).ownBlock = c.map Addr.block := by cases c <;> rfl
            rw [eb] at hat hg2
            rw [← hrow] at hown2
            have hb2 : Below w.heap.size w w2 := ((hB.trans (hb1.mono hz)).alloc (by omega) _).grown hg2 (by simp; omega) fun i hi => (hok.lt i (by rw [eb]; exact hi)).1
            have ON := Hid.mk (HO.out.add (p := (c1, d1, ys)) hb1 HO1.out hz (by rw [HK.out]; exact hown2) hg2 hat rfl)
            have hbz := hb2.size
            clear hown2 hg2 hat O2 hok hrow
            go_wp2
            go_roundw
            case rel => exact ⟨p + 1 + zn, cap, _, ps ++ [(c1, d1, ys)], by omega, by go_num, by simp [HK.out], by simp [HK.out]; omega, ON.out, hb2, by
              rw [show (ps ++ [(c1, d1, ys)]).length = k + 1 by simp [HK.out], HM.out, lotsOf_append]
              exact HS.out⟩
            case measure => simp [intOf]; omega
    · have hpn : p = n := by omega
      have HF := Hid.mk (cut_end hcut (by omega))
      have HO := Hid.mk hO
      clear hcut hO
      go_wp2
      refine bodyPost_ret (v := .tuple #[.slice c ps.length d, .bool true]) (by simp [results, Try.results50, go_sem]) rfl ⟨hB, .inr ⟨_, _, ps, HF.out, rfl, HO.out⟩⟩

end Go.Proofs.Ytnclfbliimcpgaa
