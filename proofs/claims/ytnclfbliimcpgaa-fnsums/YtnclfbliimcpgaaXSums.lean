/- The law FnSums: its walk. -/
import Derived.Test.YtnclfbliimcpgaaFoldI
import Derived.Test.YtnclfbliimcpgaaDrawS
namespace Go.Proofs.Ytnclfbliimcpgaa
open Go.RowKit

theorem wordN_append (l r : List Int) (k : Nat) (h : 2 * k + 1 < l.length) : wordN (l ++ r) k = wordN l k := by
  unfold wordN
  simp only [List.getD]
  rw [List.getElem?_append_left (by omega), List.getElem?_append_left (by omega)]

theorem sumN_append (l r : List Int) : ∀ k, 2 * k ≤ l.length → sumN (l ++ r) k = sumN l k
  | 0, _ => rfl
  | k + 1, h => by rw [sumN_succ, sumN_succ, sumN_append l r k (by omega), wordN_append l r k (by omega)]

theorem wordN_last (l : List Int) (x y : Int) (k : Nat) (h : l.length = 2 * k) : wordN (l ++ [x, y]) k = 256 * x + y := by
  unfold wordN
  rw [← h, show l.length + 1 = l.length + 1 from rfl]
  simp [List.getD]

/-- One word more. -/
theorem sumWords_word (l : List Int) (x y : Int) (k : Nat) (h : l.length = 2 * k) : sumWords (l ++ [x, y]) = 65535 - fold (65535 - sumWords l + (256 * x + y)) := by
  unfold sumWords
  rw [show ((l ++ [x, y]).length + 1) / 2 = k + 1 by simp; omega, show (l.length + 1) / 2 = k by omega, sumN_succ, sumN_append l _ k (by omega), wordN_last l x y k h]
  congr 2
  omega

theorem sumWords_bound (l : List Int) : 0 ≤ sumWords l ∧ sumWords l ≤ 65535 := by
  have := sumN_bound l ((l.length + 1) / 2)
  unfold sumWords
  omega

theorem sums_whole (l : List Int) (k : Nat) (h : l.length = 2 * k) : sumWords (l ++ [sumWords l / 256, sumWords l % 256]) = 0 := by
  rw [sumWords_word l _ _ k h, show 65535 - sumWords l + (256 * (sumWords l / 256) + sumWords l % 256) = 65535 by omega]
  rfl

theorem sums_more (l : List Int) (k : Nat) (h : l.length = 2 * k) (h0 : sumWords l = 0) : sumWords (l ++ [0, 1]) = 65534 := by
  rw [sumWords_word l _ _ k h, h0]
  rfl

set_option maxHeartbeats 2000000 in
theorem xSums_walk (a : Option Addr) (n ca : Nat) (xs : List Int) (w : World) (hR : Rd .u8 w a xs) (hB : Bytes xs) (hn : xs.length = n) :
    Calls Try.prog 4 #[.slice a n ca] w fun e w' => e = .returned (.bool true) ∧ Below w.heap.size w w' := by
  by_cases hbig : (n : Int) ≤ 1048576
  · obtain ⟨i0, hi, g0, g1, g2⟩ := info_parts Try.info_u8
    go_enter Try.func4, Try.ntmps4
    go_wp2_with (go_at_call 9; go_in)
    refine (drawSumWords_ok a n ca xs _ hR hB hn (by omega)).mono ?_
    rintro e w1 ⟨c1, d1, m, bs, rfl, hm, hl, hbs, o1, b1⟩
    have hmi : (m : Int) ≤ 401 := by omega
    by_cases hodd : m % 2 = 1
    · have hd : ((m : Int) % 2 == 1) = true := by rw [beq_iff_eq]; omega
      have hrow := o1.row hl
      have hsz := b1.size
      go_wp2_with (at_builtin; refine wpList_append_own _ rfl _ _ 22 rfl w.heap.size 5 i0 (.int .u8 0) 1 1 Try.underlying22 hi g0 g1 g2 rfl (by decide) _ _ _ rfl (hrow.alloc _) ⟨w1.heap.size, 0, none⟩ 1 1 [.int .u8 0] rfl rfl (cell_one' _ _ _) ?_ (by unfold maxLen; omega) (by omega) (by simp; omega) ?_)
      · intro u hu; simp at hu; subst hu; rfl
      intro v' w1' hown' hgrow _
      obtain ⟨hown2, b1'⟩ := appended hrow b1 (by omega) hown' hgrow
      obtain ⟨c', d', rfl, _, _⟩ := World.ownsRow.form hown2 (by omega)
      have hl' : (bs ++ [0]).length = m + 1 := by simp [hl]
      have hbs' : Bytes (bs ++ [0]) := fun z hz => by
        rcases List.mem_append.1 hz with h | h
        · exact hbs z h
        · simp at h; subst h; omega
      have o1' := Own.mk hown2 hl'
      obtain ⟨bs', hbe⟩ : ∃ l, l = bs ++ [0] := ⟨_, rfl⟩
      rw [← hbe] at hl' hbs' o1'
      have hm' : m + 1 ≤ 402 := by omega
      have hev : (m + 1) % 2 = 0 := by omega
      clear hown2 hown' hgrow hrow hd hbe hodd hmi hm o1 hl hbs
      generalize m + 1 = m' at *
      obtain ⟨k, hk⟩ : ∃ k, m' = 2 * k := ⟨m' / 2, by omega⟩
      obtain ⟨S1, S2⟩ := sumWords_bound bs'
      have HW := Hid.mk (sums_whole bs' k (by omega))
      have CS := Hid.mk (fun c d w h => specSumWords_ok c m' d bs' w h hbs' hl' (by omega))
      have CI := Hid.mk (fun c d w h => implSumWords_ok c m' d bs' w h hbs' hl' (by omega))
      generalize sumWords bs' = S at *
      have HM := Hid.mk (sums_more (bs' ++ [S / 256, S % 256]) (k + 1) (by simp; omega) HW.out)
      clear hk
      go_wp2_with fail
      refine (CI.out _ _ _ o1'.rd).mono ?_
      rintro e w2 ⟨rfl, b2⟩
      have r1 : S / 256 % 256 = S / 256 := by omega
      have r2 : S % 256 % 256 = S % 256 := by omega
      have o2 := o1'.kept b2
      have B2 := thenB b1' b2
      have z2 := B2.size
      have hcs := ((o2.kept (belowA w2 (.cells #[] 5))).row hl').cells (g := c') rfl
      have hmade := World.ownsRow_made (base := w2.heap.size) (e := 5) (size := 1) w2 #[] 0 (Nat.le_refl _) (Nat.zero_le _) rfl
      have hlt2 : c' < w2.heap.size := (o2.lt _ rfl).2
      go_wp2_with (at_builtin; refine wpList_append_own _ rfl _ _ 22 rfl w2.heap.size 5 i0 (.int .u8 0) 1 1 Try.underlying22 hi g0 g1 g2 rfl (by decide) _ _ _ rfl hmade ⟨c', 0, none⟩ m' d' (bs'.map (Value.int .u8)) rfl (by simp [hl']) hcs (ints_oneCell _ _) (by unfold maxLen; omega) (by omega) (by simp) ?_)
      intro v3 w3 hown3 hgrow3 _
      have hown3 : w3.ownsRow w2.heap.size 5 1 v3 m' (bs'.map (Value.int .u8)) := by simpa using hown3
      have B3 : Below w2.heap.size w2 w3 := (belowA w2 (.cells #[] 5)).grown hgrow3 (by simp) (by simp [Value.ownBlock])
      have z3 := B3.size
      clear hcs hmade hgrow3
      go_wp2_with (at_builtin; refine wpList_append_own _ rfl _ _ 22 rfl w2.heap.size 5 i0 (.int .u8 0) 1 1 Try.underlying22 hi g0 g1 g2 rfl (by decide) v3 m' _ rfl (hown3.alloc _) ⟨w3.heap.size, 0, none⟩ 2 2 [.int .u8 (S / 256), .int .u8 (S % 256)] rfl rfl (cell_two_new _ _ _ _) ?_ (by unfold maxLen; omega) (by omega) (by simp; omega) ?_)
      · intro u hu; simp at hu; rcases hu with rfl | rfl <;> rfl
      intro v4 w4 hown4 hgrow4 _
      have B4 : Below w2.heap.size w2 w4 := Below.grown (B3.alloc z3 _) hgrow4 (by simp; omega) fun i hi => (hown3.lt i hi).1
      have hown4 : w4.ownsRow w2.heap.size 5 1 v4 (m' + 2) ((bs' ++ [S / 256, S % 256]).map (Value.int .u8)) := by simpa using hown4
      obtain ⟨c4, d4, rfl, q4, _⟩ := World.ownsRow.form hown4 (by omega)
      have hl4 : (bs' ++ [S / 256, S % 256]).length = m' + 2 := by simp [hl']
      have hb4 : Bytes (bs' ++ [S / 256, S % 256]) := fun z hz => by
        rcases List.mem_append.1 hz with h | h
        · exact hbs' z h
        · simp at h; rcases h with rfl | rfl <;> omega
      have o4 := Own.mk hown4 hl4
      have o2 := o2.kept B4
      have CK := Hid.mk (fun c d w h => implCheckWords_ok c (m' + 2) d (bs' ++ [S / 256, S % 256]) w h hb4 hl4 (by omega))
      rw [HW.out, show ((0 : Int) == 0) = true from rfl] at CK
      have hl5 : (bs' ++ [S / 256, S % 256] ++ [0, 1]).length = m' + 2 + 2 := by simp [hl']
      have hb5 : Bytes (bs' ++ [S / 256, S % 256] ++ [0, 1]) := fun z hz => by
        rcases List.mem_append.1 hz with h | h
        · exact hb4 z h
        · simp at h; rcases h with rfl | rfl <;> omega
      have CL := Hid.mk (fun c d w h => implCheckWords_ok c (m' + 2 + 2) d (bs' ++ [S / 256, S % 256] ++ [0, 1]) w h hb5 hl5 (by omega))
      rw [HM.out, show ((65534 : Int) == 0) = false from rfl] at CL
      generalize bs' ++ [S / 256, S % 256] = ws at *
      have hR4 := hR.kept (thenB B2 B4)
      clear hown3 hown4 hgrow4 r1 r2 B3
      go_wp2_with fail
      refine (lwAt_ok a n ca xs 1 1000 _ hR4 hB hn (by omega) (by omega) (by omega)).mono ?_
      rintro e w5 ⟨v, rfl, hv, _, b5⟩
      obtain ⟨v1, v2⟩ := hv (by omega)
      have o4 := o4.kept b5
      have o2 := o2.kept b5
      have hfv : fsVal (v * 65535) = if v = 0 then 0 else 65535 := by
        unfold fsVal fold
        rw [if_pos (by omega)]
        by_cases h0 : v = 0
        · subst h0; rfl
        · rw [if_neg (by omega), if_neg h0]; omega
      have CF := Hid.mk (fun w => implFoldSum_ok (v * 65535) w)
      rw [hfv, show fsCode (v * 65535) = 0 from if_pos (by omega)] at CF
      clear hfv
      obtain ⟨F, hF⟩ : ∃ F : Int, (if v = 0 then (0 : Int) else 65535) = F := ⟨_, rfl⟩
      rw [hF] at CF
      have hFF : F = 0 ∨ F = 65535 := by
        by_cases h0 : v = 0
        · left; rw [← hF, if_pos h0]
        · right; rw [← hF, if_neg h0]
      clear hF
      go_wp2_with fail
      refine (CF.out _).mono ?_
      rintro e w6 ⟨rfl, b6⟩
      have o4 := (o4.kept b6).kept (belowA w6 (.cells #[.int .i64 0, .int .i64 F] 30))
      have o2 := (o2.kept b6).kept (belowA w6 (.cells #[.int .i64 0, .int .i64 F] 30))
      have A0 := At.new2 w6 (.int .i64 0) (.int .i64 F) 30
      go_wp2_with fail
      refine (CK.out _ _ _ o4.rd).mono ?_
      rintro e w7 ⟨rfl, b7⟩
      have o4 := o4.kept b7
      have o2 := o2.kept b7
      have A0 := A0.kept b7
      have hcs := ((o4.kept (belowA w7 (.cells #[] 5))).row hl4).cells (g := c4) rfl
      have hmade := World.ownsRow_made (base := w7.heap.size) (e := 5) (size := 1) w7 #[] 0 (Nat.le_refl _) (Nat.zero_le _) rfl
      go_wp2_with (at_builtin; refine wpListG_append_own _ (by rfl) _ _ 22 rfl w7.heap.size 5 i0 (.int .u8 0) 1 1 Try.underlying22 hi g0 g1 g2 rfl (by decide) _ _ _ rfl hmade ⟨c4, 0, none⟩ (m' + 2) d4 (ws.map (Value.int .u8)) rfl (by simp [hl4]) hcs (ints_oneCell _ _) (by unfold maxLen; omega) (by omega) (by simp) ?_)
      intro v8 w8 hown8 hgrow8 _
      have hown8 : w8.ownsRow w7.heap.size 5 1 v8 (m' + 2) (ws.map (Value.int .u8)) := by simpa using hown8
      have B8 : Below w7.heap.size w7 w8 := (belowA w7 (.cells #[] 5)).grown hgrow8 (by simp) (by simp [Value.ownBlock])
      have z8 := B8.size
      clear hcs hmade hgrow8
      go_wp2_with (at_builtin; refine wpListG_append_own _ (by rfl) _ _ 22 rfl w7.heap.size 5 i0 (.int .u8 0) 1 1 Try.underlying22 hi g0 g1 g2 rfl (by decide) v8 (m' + 2) _ rfl (hown8.alloc _) ⟨w8.heap.size, 0, none⟩ 2 2 [.int .u8 0, .int .u8 1] rfl rfl (cell_two_new _ _ _ _) ?_ (by unfold maxLen; omega) (by omega) (by simp; omega) ?_)
      · intro u hu; simp at hu; rcases hu with rfl | rfl <;> rfl
      intro v9 w9 hown9 hgrow9 _
      have B9 : Below w7.heap.size w7 w9 := Below.grown (B8.alloc z8 _) hgrow9 (by simp; omega) fun i hi => (hown8.lt i hi).1
      have hown9 : w9.ownsRow w7.heap.size 5 1 v9 (m' + 2 + 2) ((ws ++ [0, 1]).map (Value.int .u8)) := by simpa using hown9
      obtain ⟨c9, d9, rfl, q9, _⟩ := World.ownsRow.form hown9 (by omega)
      have o9 := Own.mk hown9 hl5
      have o2 := o2.kept B9
      have A0 := A0.kept B9
      clear hown8 hown9 hgrow9 B8
      go_wp2_with fail
      refine (CL.out _ _ _ o9.rd).mono ?_
      rintro e w10 ⟨rfl, b10⟩
      have oF := o2.kept b10
      have A0 := A0.kept b10
      obtain ⟨f1, f2, f3⟩ := A0.two
      have BB := thenB (thenB (thenB (thenB (thenB (thenB B2 B4) b5) b6) (belowA _ _)) b7) (thenB B9 b10)
      rcases hFF with rfl | rfl
      all_goals
        go_wp2_with fail
        refine (CS.out _ _ _ oF.rd).mono ?_
        rintro e w11 ⟨rfl, b11⟩
        go_wp2
        go_ret
        exact ⟨rfl, thenB BB b11⟩
    · have hd : ((m : Int) % 2 == 1) = false := by rw [beq_eq_false_iff_ne]; omega
      have hl' := hl
      have hbs' := hbs
      have o1' := o1
      have b1' := b1
      have hm' : m ≤ 402 := by omega
      have hev : m % 2 = 0 := by omega
      clear hl hbs o1 b1 hm hodd
      generalize m = m' at *
      generalize bs = bs' at *
      generalize c1 = c' at *
      generalize d1 = d' at *
      obtain ⟨k, hk⟩ : ∃ k, m' = 2 * k := ⟨m' / 2, by omega⟩
      obtain ⟨S1, S2⟩ := sumWords_bound bs'
      have HW := Hid.mk (sums_whole bs' k (by omega))
      have CS := Hid.mk (fun c d w h => specSumWords_ok c m' d bs' w h hbs' hl' (by omega))
      have CI := Hid.mk (fun c d w h => implSumWords_ok c m' d bs' w h hbs' hl' (by omega))
      generalize sumWords bs' = S at *
      have HM := Hid.mk (sums_more (bs' ++ [S / 256, S % 256]) (k + 1) (by simp; omega) HW.out)
      clear hk
      go_wp2_with fail
      refine (CI.out _ _ _ o1'.rd).mono ?_
      rintro e w2 ⟨rfl, b2⟩
      have r1 : S / 256 % 256 = S / 256 := by omega
      have r2 : S % 256 % 256 = S % 256 := by omega
      have o2 := o1'.kept b2
      have B2 := thenB b1' b2
      have z2 := B2.size
      have hcs := ((o2.kept (belowA w2 (.cells #[] 5))).row hl').cells (g := c') rfl
      have hmade := World.ownsRow_made (base := w2.heap.size) (e := 5) (size := 1) w2 #[] 0 (Nat.le_refl _) (Nat.zero_le _) rfl
      have hlt2 : c' < w2.heap.size := (o2.lt _ rfl).2
      go_wp2_with (at_builtin; refine wpList_append_own _ rfl _ _ 22 rfl w2.heap.size 5 i0 (.int .u8 0) 1 1 Try.underlying22 hi g0 g1 g2 rfl (by decide) _ _ _ rfl hmade ⟨c', 0, none⟩ m' d' (bs'.map (Value.int .u8)) rfl (by simp [hl']) hcs (ints_oneCell _ _) (by unfold maxLen; omega) (by omega) (by simp) ?_)
      intro v3 w3 hown3 hgrow3 _
      have hown3 : w3.ownsRow w2.heap.size 5 1 v3 m' (bs'.map (Value.int .u8)) := by simpa using hown3
      have B3 : Below w2.heap.size w2 w3 := (belowA w2 (.cells #[] 5)).grown hgrow3 (by simp) (by simp [Value.ownBlock])
      have z3 := B3.size
      clear hcs hmade hgrow3
      go_wp2_with (at_builtin; refine wpList_append_own _ rfl _ _ 22 rfl w2.heap.size 5 i0 (.int .u8 0) 1 1 Try.underlying22 hi g0 g1 g2 rfl (by decide) v3 m' _ rfl (hown3.alloc _) ⟨w3.heap.size, 0, none⟩ 2 2 [.int .u8 (S / 256), .int .u8 (S % 256)] rfl rfl (cell_two_new _ _ _ _) ?_ (by unfold maxLen; omega) (by omega) (by simp; omega) ?_)
      · intro u hu; simp at hu; rcases hu with rfl | rfl <;> rfl
      intro v4 w4 hown4 hgrow4 _
      have B4 : Below w2.heap.size w2 w4 := Below.grown (B3.alloc z3 _) hgrow4 (by simp; omega) fun i hi => (hown3.lt i hi).1
      have hown4 : w4.ownsRow w2.heap.size 5 1 v4 (m' + 2) ((bs' ++ [S / 256, S % 256]).map (Value.int .u8)) := by simpa using hown4
      obtain ⟨c4, d4, rfl, q4, _⟩ := World.ownsRow.form hown4 (by omega)
      have hl4 : (bs' ++ [S / 256, S % 256]).length = m' + 2 := by simp [hl']
      have hb4 : Bytes (bs' ++ [S / 256, S % 256]) := fun z hz => by
        rcases List.mem_append.1 hz with h | h
        · exact hbs' z h
        · simp at h; rcases h with rfl | rfl <;> omega
      have o4 := Own.mk hown4 hl4
      have o2 := o2.kept B4
      have CK := Hid.mk (fun c d w h => implCheckWords_ok c (m' + 2) d (bs' ++ [S / 256, S % 256]) w h hb4 hl4 (by omega))
      rw [HW.out, show ((0 : Int) == 0) = true from rfl] at CK
      have hl5 : (bs' ++ [S / 256, S % 256] ++ [0, 1]).length = m' + 2 + 2 := by simp [hl']
      have hb5 : Bytes (bs' ++ [S / 256, S % 256] ++ [0, 1]) := fun z hz => by
        rcases List.mem_append.1 hz with h | h
        · exact hb4 z h
        · simp at h; rcases h with rfl | rfl <;> omega
      have CL := Hid.mk (fun c d w h => implCheckWords_ok c (m' + 2 + 2) d (bs' ++ [S / 256, S % 256] ++ [0, 1]) w h hb5 hl5 (by omega))
      rw [HM.out, show ((65534 : Int) == 0) = false from rfl] at CL
      generalize bs' ++ [S / 256, S % 256] = ws at *
      have hR4 := hR.kept (thenB B2 B4)
      clear hown3 hown4 hgrow4 r1 r2 B3
      go_wp2_with fail
      refine (lwAt_ok a n ca xs 1 1000 _ hR4 hB hn (by omega) (by omega) (by omega)).mono ?_
      rintro e w5 ⟨v, rfl, hv, _, b5⟩
      obtain ⟨v1, v2⟩ := hv (by omega)
      have o4 := o4.kept b5
      have o2 := o2.kept b5
      have hfv : fsVal (v * 65535) = if v = 0 then 0 else 65535 := by
        unfold fsVal fold
        rw [if_pos (by omega)]
        by_cases h0 : v = 0
        · subst h0; rfl
        · rw [if_neg (by omega), if_neg h0]; omega
      have CF := Hid.mk (fun w => implFoldSum_ok (v * 65535) w)
      rw [hfv, show fsCode (v * 65535) = 0 from if_pos (by omega)] at CF
      clear hfv
      obtain ⟨F, hF⟩ : ∃ F : Int, (if v = 0 then (0 : Int) else 65535) = F := ⟨_, rfl⟩
      rw [hF] at CF
      have hFF : F = 0 ∨ F = 65535 := by
        by_cases h0 : v = 0
        · left; rw [← hF, if_pos h0]
        · right; rw [← hF, if_neg h0]
      clear hF
      go_wp2_with fail
      refine (CF.out _).mono ?_
      rintro e w6 ⟨rfl, b6⟩
      have o4 := (o4.kept b6).kept (belowA w6 (.cells #[.int .i64 0, .int .i64 F] 30))
      have o2 := (o2.kept b6).kept (belowA w6 (.cells #[.int .i64 0, .int .i64 F] 30))
      have A0 := At.new2 w6 (.int .i64 0) (.int .i64 F) 30
      go_wp2_with fail
      refine (CK.out _ _ _ o4.rd).mono ?_
      rintro e w7 ⟨rfl, b7⟩
      have o4 := o4.kept b7
      have o2 := o2.kept b7
      have A0 := A0.kept b7
      have hcs := ((o4.kept (belowA w7 (.cells #[] 5))).row hl4).cells (g := c4) rfl
      have hmade := World.ownsRow_made (base := w7.heap.size) (e := 5) (size := 1) w7 #[] 0 (Nat.le_refl _) (Nat.zero_le _) rfl
      go_wp2_with (at_builtin; refine wpListG_append_own _ (by rfl) _ _ 22 rfl w7.heap.size 5 i0 (.int .u8 0) 1 1 Try.underlying22 hi g0 g1 g2 rfl (by decide) _ _ _ rfl hmade ⟨c4, 0, none⟩ (m' + 2) d4 (ws.map (Value.int .u8)) rfl (by simp [hl4]) hcs (ints_oneCell _ _) (by unfold maxLen; omega) (by omega) (by simp) ?_)
      intro v8 w8 hown8 hgrow8 _
      have hown8 : w8.ownsRow w7.heap.size 5 1 v8 (m' + 2) (ws.map (Value.int .u8)) := by simpa using hown8
      have B8 : Below w7.heap.size w7 w8 := (belowA w7 (.cells #[] 5)).grown hgrow8 (by simp) (by simp [Value.ownBlock])
      have z8 := B8.size
      clear hcs hmade hgrow8
      go_wp2_with (at_builtin; refine wpListG_append_own _ (by rfl) _ _ 22 rfl w7.heap.size 5 i0 (.int .u8 0) 1 1 Try.underlying22 hi g0 g1 g2 rfl (by decide) v8 (m' + 2) _ rfl (hown8.alloc _) ⟨w8.heap.size, 0, none⟩ 2 2 [.int .u8 0, .int .u8 1] rfl rfl (cell_two_new _ _ _ _) ?_ (by unfold maxLen; omega) (by omega) (by simp; omega) ?_)
      · intro u hu; simp at hu; rcases hu with rfl | rfl <;> rfl
      intro v9 w9 hown9 hgrow9 _
      have B9 : Below w7.heap.size w7 w9 := Below.grown (B8.alloc z8 _) hgrow9 (by simp; omega) fun i hi => (hown8.lt i hi).1
      have hown9 : w9.ownsRow w7.heap.size 5 1 v9 (m' + 2 + 2) ((ws ++ [0, 1]).map (Value.int .u8)) := by simpa using hown9
      obtain ⟨c9, d9, rfl, q9, _⟩ := World.ownsRow.form hown9 (by omega)
      have o9 := Own.mk hown9 hl5
      have o2 := o2.kept B9
      have A0 := A0.kept B9
      clear hown8 hown9 hgrow9 B8
      go_wp2_with fail
      refine (CL.out _ _ _ o9.rd).mono ?_
      rintro e w10 ⟨rfl, b10⟩
      have oF := o2.kept b10
      have A0 := A0.kept b10
      obtain ⟨f1, f2, f3⟩ := A0.two
      have BB := thenB (thenB (thenB (thenB (thenB (thenB B2 B4) b5) b6) (belowA _ _)) b7) (thenB B9 b10)
      rcases hFF with rfl | rfl
      all_goals
        go_wp2_with fail
        refine (CS.out _ _ _ oF.rd).mono ?_
        rintro e w11 ⟨rfl, b11⟩
        go_wp2
        go_ret
        exact ⟨rfl, thenB BB b11⟩
  · go_enter Try.func4, Try.ntmps4
    go_wp2_with (go_at_call 9; go_in)
    go_ret
    exact ⟨rfl, Below.refl _ _⟩

end Go.Proofs.Ytnclfbliimcpgaa
