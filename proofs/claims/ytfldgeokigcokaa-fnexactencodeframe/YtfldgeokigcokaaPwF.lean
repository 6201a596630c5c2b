/- EncodeFrame of the program. -/
import Derived.Test.YtfldgeokigcokaaPwE
import Derived.Test.YtfldgeokigcokaaWrC
import Derived.Test.YtfldgeokigcokaaPwD
namespace Go.Proofs.Ytfldgeokigcokaa
open Go.RowKit

@[irreducible] def wdsOk (zs : List Int) : Bool := zs.all fun z => btw z 0 4294967295

theorem wdsOk_step (zs : List Int) (k : Nat) (h : k < zs.length) {z : Int} (hz : zs.getD k 0 = z) : wdsOk (zs.drop k) = (btw z 0 4294967295 && wdsOk (zs.drop (k + 1))) := by
  unfold wdsOk
  rw [List.drop_eq_getElem_cons h, List.all_cons]
  have e : zs[k] = z := by rw [← hz]; simp [List.getD, h]
  rw [e]

set_option maxHeartbeats 1000000 in
theorem areInFour_ok (c : Option Addr) (n d : Nat) (zs : List Int) (w : World) (hR : Rd .i64 w c zs) (hn : zs.length = n) (hx : n ≤ maxLen) :
    Calls Try.prog 50 #[.slice c n d] w fun e w' => e = .returned (.bool (wdsOk zs)) ∧ w' = w := by
  unfold maxLen at hx
  have CG := greatest_ok 4
  simp only [show (2 : Int) ^ (8 * 4) - 1 = 4294967295 by decide, show ((4 : Nat) : Int) = 4 by decide] at CG
  replace CG := Hid.mk (fun w => CG w (by decide) (by decide))
  go_enter Try.func50, Try.ntmps50
  go_wp2
  go_loopw [7] (fun i wr => ∃ k : Nat, k ≤ n ∧ i = .int .i64 k ∧ wdsOk (zs.drop k) = wdsOk zs ∧ wr = w) (fun i _ => n - (intOf i).toNat)
  case atStart => exact ⟨0, Nat.zero_le _, rfl, rfl, rfl⟩
  case round =>
    obtain ⟨k, hk, rfl, hdr, rfl⟩ := hrel
    by_cases hlt : k < n
    · obtain ⟨z, hz⟩ : ∃ z, zs.getD k 0 = z := ⟨_, rfl⟩
      have hk1 : (k : Int) < (n : Int) := by omega
      have hs := wdsOk_step zs k (by omega) hz
      rw [hdr] at hs
      rcases hR with hR | ⟨b1, o1, rfl, hca⟩
      · simp [hR] at hn; omega
      have p0 := hca k (by omega)
      rw [hz] at p0
      clear hca hz hdr
      have CI := Hid.mk (isBetween_ok z 0 4294967295)
      cases hg : btw z 0 4294967295
      · rw [hg] at hs CI
        have HS := Hid.mk hs
        clear hs hg
        go_wp2_with fail
        refine (CG.out _).mono ?_
        rintro e wr ⟨rfl, rfl⟩
        go_wp2_with fail
        refine (CI.out _).mono ?_
        rintro e wr ⟨rfl, rfl⟩
        go_wp2
        go_ret
        exact ⟨ret_bool HS.out.symm, rfl⟩
      · rw [hg, Bool.true_and] at hs
        rw [hg] at CI
        have HS := Hid.mk hs
        clear hs hg
        go_wp2_with fail
        refine (CG.out _).mono ?_
        rintro e wr ⟨rfl, rfl⟩
        go_wp2_with fail
        refine (CI.out _).mono ?_
        rintro e wr ⟨rfl, rfl⟩
        go_wp2
        go_roundw
        case rel => exact ⟨k + 1, by omega, by go_num, HS.out.symm, by trivial⟩
        case measure => simp [intOf]; omega
    · have hkn : k = n := by omega
      subst hkn
      rw [List.drop_of_length_le (by omega)] at hdr
      have HS := Hid.mk hdr
      clear hdr
      go_wp2
      go_ret
      refine ⟨ret_bool (HS.out.symm.trans (by unfold wdsOk; rfl)).symm, rfl⟩

theorem wds3 (a b n : Int) : wdsOk [a, b, n] = (btw a 0 4294967295 && (btw b 0 4294967295 && btw n 0 4294967295)) := by
  unfold wdsOk; simp

inductive WPs (S : Nat → Prop) (w0 : World) : List Value → List (List Int) → Prop where
  | nil : WPs S w0 [] []
  | cons {u : Value} {x : List Int} {us : List Value} {xs : List (List Int)} : WP S w0 u x → WPs S w0 us xs → WPs S w0 (u :: us) (x :: xs)

theorem WPs.at' {S : Nat → Prop} {w0 : World} {us : List Value} {xs : List (List Int)} (h : WPs S w0 us xs) : ∀ (i : Nat) (u : Value), us[i]? = some u → WP S w0 u (xs.getD i []) := by
  induction h with
  | nil => intro i u hi; simp at hi
  | cons h1 _ ih =>
    intro i u hi
    cases i with
    | zero => simp only [List.getElem?_cons_zero, Option.some.injEq] at hi; subst hi; exact h1
    | succ i => rw [List.getElem?_cons_succ] at hi; rw [List.getD_cons_succ]; exact ih i u hi

theorem frame_wp (kind a b n : Int) (z : Option Addr) (m ca : Nat) (body : List Int) (w0 : World) (P : Nat) (pk : ptIn kind 1) (pa : ptIn a 4) (pb : ptIn b 4) (pn : ptIn n 4) (pm : ptIn (m : Int) 2) (hr : Rd .u8 w0 z body)
    (hc : ∀ i, i < ([.iface 72 (.agg #[.int .i64 32, .int .i64 1]), .iface 72 (.agg #[.int .i64 kind, .int .i64 1]), .iface 72 (.agg #[.int .i64 a, .int .i64 4]), .iface 72 (.agg #[.int .i64 b, .int .i64 4]), .iface 72 (.agg #[.int .i64 n, .int .i64 4]), .iface 72 (.agg #[.int .i64 (m : Int), .int .i64 2]), .iface 73 (.slice z m ca)] : List Value).length → w0.cell? ⟨P, i, none⟩ = ([.iface 72 (.agg #[.int .i64 32, .int .i64 1]), .iface 72 (.agg #[.int .i64 kind, .int .i64 1]), .iface 72 (.agg #[.int .i64 a, .int .i64 4]), .iface 72 (.agg #[.int .i64 b, .int .i64 4]), .iface 72 (.agg #[.int .i64 n, .int .i64 4]), .iface 72 (.agg #[.int .i64 (m : Int), .int .i64 2]), .iface 73 (.slice z m ca)] : List Value)[i]?) (hm : body.length = m) (hca : z = none → ca = 0) :
    WP (fun q => q = P ∨ (body ≠ [] ∧ RowB z q)) w0 (.iface 75 (.slice (some ⟨P, 0, none⟩) 7 7)) (frmP kind a b n body) := by
  have e : frmP kind a b n body = [putN 32 1, putN kind 1, putN a 4, putN b 4, putN n 4, putN (m : Int) 2, body].flatten := by
    unfold frmP
    rw [hm, putN_of1 (o := 32) (by decide), putN_of1 (o := kind) (by have := pk.2.2.2; simp at this; have := pk.2.2.1; omega)]
    simp
  rw [e]
  refine wp_list _ w0 P 7 7 [.iface 72 (.agg #[.int .i64 32, .int .i64 1]), .iface 72 (.agg #[.int .i64 kind, .int .i64 1]), .iface 72 (.agg #[.int .i64 a, .int .i64 4]), .iface 72 (.agg #[.int .i64 b, .int .i64 4]), .iface 72 (.agg #[.int .i64 n, .int .i64 4]), .iface 72 (.agg #[.int .i64 (m : Int), .int .i64 2]), .iface 73 (.slice z m ca)] _ rfl rfl (by decide) (.inl rfl) (fun i u hi => ?_) (WPs.at' ?_)
  · obtain ⟨h1, _⟩ := List.getElem?_eq_some_iff.1 hi
    rw [hc i h1]; exact hi
  · refine .cons (wp_num _ _ 32 1 ⟨by decide, by decide, by decide, by decide⟩) (.cons (wp_num _ _ kind 1 pk) (.cons (wp_num _ _ a 4 pa) (.cons (wp_num _ _ b 4 pb) (.cons (wp_num _ _ n 4 pn) (.cons (wp_num _ _ (m : Int) 2 pm) (.cons (wp_load _ _ z m ca body hr ?_ hm hca) .nil))))))
    by_cases h : body = []
    · exact .inl h
    · exact .inr (fun b' hb' => .inr ⟨h, b', hb', rfl⟩)

theorem ptIn_4 {n : Int} (h : 0 ≤ n ∧ n ≤ 4294967295) : ptIn n 4 := ⟨by decide, by decide, h.1, by simp; omega⟩

set_option maxRecDepth 20000 in
set_option maxHeartbeats 8000000 in
theorem implEncodeFrame_ok (kind a b n : Int) (z : Option Addr) (m ca : Nat) (body : List Int) (w : World) (hr : Rd .u8 w z body) (hm : body.length = m) (hx : m ≤ maxLen) (hca : z = none → ca = 0) :
    Calls Try.prog 13 #[.int .i64 kind, .int .i64 a, .int .i64 b, .int .i64 n, .slice z m ca] w fun e w' => ∃ c d, e = .returned (.agg #[.int .i64 (frmC kind a b n body), .slice c (frmB kind a b n body).length d]) ∧ Own .u8 5 w' w.heap.size c d (frmB kind a b n body) ∧ Below w.heap.size w w' := by
  have q1 := build_bic
  have q2 := build_biv
  have q3 := build_wn
  unfold maxLen at hx
  have HR := Hid.mk hr
  have HM := Hid.mk hm
  have HCA := Hid.mk hca
  have CI := isBetween_ok kind 1 9
  have CA := Hid.mk (fun w c d h => areInFour_ok c 3 d [a, b, n] w h rfl (by unfold maxLen; omega))
  rw [wds3] at CA
  have HW := fr_ways kind a b n body
  clear hr hca
  rcases HW with ⟨h1, e1, e2⟩ | ⟨h1, h2, e1, e2⟩ | ⟨h1, h2, h3, e1, e2⟩ | ⟨h1, h2, h3, h4, e1, e2⟩ | ⟨h1, h2, h3, h4, h5, e1, e2⟩ | ⟨h1, h2, h3, h4, h5, e1, e2⟩
  · rw [e1, e2]
    rw [h1] at CI
    replace CI := Hid.mk CI
    clear e1 e2 h1
    go_enter Try.func13, Try.ntmps13
    have B := Below.refl w.heap.size w
    replace B := thenB B (belowA w (.cells #[.int .i64 0, .slice none 0 0] 29))
    have VR := V.new w [.int .i64 0, .slice none 0 0] 29
    obtain ⟨s_VR, f_VR, z_VR⟩ := VR.open
    have Bo := B
    clear s_VR f_VR z_VR
    obtain ⟨s_VR, f_VR, z_VR⟩ := VR.open
    have Bo := B
    go_wp2_with fail
    refine (CI.out _).mono ?_
    rintro e wq ⟨rfl, rfl⟩
    clear s_VR f_VR z_VR
    have VF := Hid.mk (VR.filled [.int .i64 3, .slice none 0 0] rfl)
    have HT := Hid.mk VR.there
    have BR := belowCells B (show w.heap.size ≤ w.heap.size by (first | omega | (simp; done) | (simp; omega))) 0 [.int .i64 3, .slice none 0 0]
    replace BR := Hid.mk BR
    obtain ⟨s_VR, f_VR, z_VR⟩ := VR.open
    go_wp2_with (refine wpList_store_mid rfl 29 _ _ rfl (w.heap.size) 0 #[.int .i64 3, .slice none 0 0] rfl rfl HT.out (by kernel_rfl) (by kernel_rfl) ?_)
    refine bodyPost_ret (v := .agg #[.int .i64 3, .slice none 0 0]) (results_row Try.results13 _ _ (w.heap.size) [.int .i64 3, .slice none 0 0] _ rfl VF.out Try.underlying29 rfl (by kernel_rfl)) rfl ⟨none, 0, rfl, own_none, BR.out⟩
  · rw [e1, e2]
    rw [h1] at CI
    rw [h2, Bool.false_and] at CA
    replace CI := Hid.mk CI
    clear e1 e2 h1 h2
    go_enter Try.func13, Try.ntmps13
    have B := Below.refl w.heap.size w
    replace B := thenB B (belowA w (.cells #[.int .i64 0, .slice none 0 0] 29))
    have VR := V.new w [.int .i64 0, .slice none 0 0] 29
    obtain ⟨s_VR, f_VR, z_VR⟩ := VR.open
    have Bo := B
    clear s_VR f_VR z_VR
    obtain ⟨s_VR, f_VR, z_VR⟩ := VR.open
    have Bo := B
    go_wp2_with fail
    refine (CI.out _).mono ?_
    rintro e wq ⟨rfl, rfl⟩
    clear s_VR f_VR z_VR
    replace VR := VR.kept (belowA (w.alloc (.cells #[.int .i64 0, .slice none 0 0] 29)) (.cells #[.int .i64 a, .int .i64 b, .int .i64 n] 2))
    replace B := thenB B (belowA (w.alloc (.cells #[.int .i64 0, .slice none 0 0] 29)) (.cells #[.int .i64 a, .int .i64 b, .int .i64 n] 2))
    have VN : V ((w.alloc (.cells #[.int .i64 0, .slice none 0 0] 29)).alloc (.cells #[.int .i64 a, .int .i64 b, .int .i64 n] 2)) (w.heap.size + 1) [.int .i64 a, .int .i64 b, .int .i64 n] := V.newAt _ _ _ _ (by simp)
    have hR3 : Rd .i64 ((w.alloc (.cells #[.int .i64 0, .slice none 0 0] 29)).alloc (.cells #[.int .i64 a, .int .i64 b, .int .i64 n] 2)) (some ⟨w.heap.size + 1, 0, none⟩) [a, b, n] := by
      have h := (OwnI.lit (w.alloc (.cells #[.int .i64 0, .slice none 0 0] 29)) [a, b, n] [.int .i64 a, .int .i64 b, .int .i64 n] rfl (by unfold maxLen; simp)).rd
      simpa using h
    obtain ⟨s_VR, f_VR, z_VR⟩ := VR.open
    obtain ⟨s_VN, f_VN, z_VN⟩ := VN.open
    have Bo := B
    go_wp2_with fail
    refine (CA.out _ _ _ hR3).mono ?_
    rintro e wq ⟨rfl, rfl⟩
    clear hR3
    clear s_VR f_VR z_VR s_VN f_VN z_VN
    have VF := Hid.mk (VR.filled [.int .i64 3, .slice none 0 0] rfl)
    have HT := Hid.mk VR.there
    have BR := belowCells B (show w.heap.size ≤ w.heap.size by (first | omega | (simp; done) | (simp; omega))) 0 [.int .i64 3, .slice none 0 0]
    replace BR := Hid.mk BR
    obtain ⟨s_VR, f_VR, z_VR⟩ := VR.open
    obtain ⟨s_VN, f_VN, z_VN⟩ := VN.open
    go_wp2_with (refine wpList_store_mid rfl 29 _ _ rfl (w.heap.size) 0 #[.int .i64 3, .slice none 0 0] rfl rfl HT.out (by kernel_rfl) (by kernel_rfl) ?_)
    refine bodyPost_ret (v := .agg #[.int .i64 3, .slice none 0 0]) (results_row Try.results13 _ _ (w.heap.size) [.int .i64 3, .slice none 0 0] _ rfl VF.out Try.underlying29 rfl (by kernel_rfl)) rfl ⟨none, 0, rfl, own_none, BR.out⟩
  · rw [e1, e2]
    rw [h1] at CI
    rw [h2, h3, Bool.false_and, Bool.and_false] at CA
    replace CI := Hid.mk CI
    clear e1 e2 h1 h2 h3
    go_enter Try.func13, Try.ntmps13
    have B := Below.refl w.heap.size w
    replace B := thenB B (belowA w (.cells #[.int .i64 0, .slice none 0 0] 29))
    have VR := V.new w [.int .i64 0, .slice none 0 0] 29
    obtain ⟨s_VR, f_VR, z_VR⟩ := VR.open
    have Bo := B
    clear s_VR f_VR z_VR
    obtain ⟨s_VR, f_VR, z_VR⟩ := VR.open
    have Bo := B
    go_wp2_with fail
    refine (CI.out _).mono ?_
    rintro e wq ⟨rfl, rfl⟩
    clear s_VR f_VR z_VR
    replace VR := VR.kept (belowA (w.alloc (.cells #[.int .i64 0, .slice none 0 0] 29)) (.cells #[.int .i64 a, .int .i64 b, .int .i64 n] 2))
    replace B := thenB B (belowA (w.alloc (.cells #[.int .i64 0, .slice none 0 0] 29)) (.cells #[.int .i64 a, .int .i64 b, .int .i64 n] 2))
    have VN : V ((w.alloc (.cells #[.int .i64 0, .slice none 0 0] 29)).alloc (.cells #[.int .i64 a, .int .i64 b, .int .i64 n] 2)) (w.heap.size + 1) [.int .i64 a, .int .i64 b, .int .i64 n] := V.newAt _ _ _ _ (by simp)
    have hR3 : Rd .i64 ((w.alloc (.cells #[.int .i64 0, .slice none 0 0] 29)).alloc (.cells #[.int .i64 a, .int .i64 b, .int .i64 n] 2)) (some ⟨w.heap.size + 1, 0, none⟩) [a, b, n] := by
      have h := (OwnI.lit (w.alloc (.cells #[.int .i64 0, .slice none 0 0] 29)) [a, b, n] [.int .i64 a, .int .i64 b, .int .i64 n] rfl (by unfold maxLen; simp)).rd
      simpa using h
    obtain ⟨s_VR, f_VR, z_VR⟩ := VR.open
    obtain ⟨s_VN, f_VN, z_VN⟩ := VN.open
    have Bo := B
    go_wp2_with fail
    refine (CA.out _ _ _ hR3).mono ?_
    rintro e wq ⟨rfl, rfl⟩
    clear hR3
    clear s_VR f_VR z_VR s_VN f_VN z_VN
    have VF := Hid.mk (VR.filled [.int .i64 3, .slice none 0 0] rfl)
    have HT := Hid.mk VR.there
    have BR := belowCells B (show w.heap.size ≤ w.heap.size by (first | omega | (simp; done) | (simp; omega))) 0 [.int .i64 3, .slice none 0 0]
    replace BR := Hid.mk BR
    obtain ⟨s_VR, f_VR, z_VR⟩ := VR.open
    obtain ⟨s_VN, f_VN, z_VN⟩ := VN.open
    go_wp2_with (refine wpList_store_mid rfl 29 _ _ rfl (w.heap.size) 0 #[.int .i64 3, .slice none 0 0] rfl rfl HT.out (by kernel_rfl) (by kernel_rfl) ?_)
    refine bodyPost_ret (v := .agg #[.int .i64 3, .slice none 0 0]) (results_row Try.results13 _ _ (w.heap.size) [.int .i64 3, .slice none 0 0] _ rfl VF.out Try.underlying29 rfl (by kernel_rfl)) rfl ⟨none, 0, rfl, own_none, BR.out⟩
  · rw [e1, e2]
    rw [h1] at CI
    rw [h2, h3, h4, Bool.and_false, Bool.and_false] at CA
    replace CI := Hid.mk CI
    clear e1 e2 h1 h2 h3 h4
    go_enter Try.func13, Try.ntmps13
    have B := Below.refl w.heap.size w
    replace B := thenB B (belowA w (.cells #[.int .i64 0, .slice none 0 0] 29))
    have VR := V.new w [.int .i64 0, .slice none 0 0] 29
    obtain ⟨s_VR, f_VR, z_VR⟩ := VR.open
    have Bo := B
    clear s_VR f_VR z_VR
    obtain ⟨s_VR, f_VR, z_VR⟩ := VR.open
    have Bo := B
    go_wp2_with fail
    refine (CI.out _).mono ?_
    rintro e wq ⟨rfl, rfl⟩
    clear s_VR f_VR z_VR
    replace VR := VR.kept (belowA (w.alloc (.cells #[.int .i64 0, .slice none 0 0] 29)) (.cells #[.int .i64 a, .int .i64 b, .int .i64 n] 2))
    replace B := thenB B (belowA (w.alloc (.cells #[.int .i64 0, .slice none 0 0] 29)) (.cells #[.int .i64 a, .int .i64 b, .int .i64 n] 2))
    have VN : V ((w.alloc (.cells #[.int .i64 0, .slice none 0 0] 29)).alloc (.cells #[.int .i64 a, .int .i64 b, .int .i64 n] 2)) (w.heap.size + 1) [.int .i64 a, .int .i64 b, .int .i64 n] := V.newAt _ _ _ _ (by simp)
    have hR3 : Rd .i64 ((w.alloc (.cells #[.int .i64 0, .slice none 0 0] 29)).alloc (.cells #[.int .i64 a, .int .i64 b, .int .i64 n] 2)) (some ⟨w.heap.size + 1, 0, none⟩) [a, b, n] := by
      have h := (OwnI.lit (w.alloc (.cells #[.int .i64 0, .slice none 0 0] 29)) [a, b, n] [.int .i64 a, .int .i64 b, .int .i64 n] rfl (by unfold maxLen; simp)).rd
      simpa using h
    obtain ⟨s_VR, f_VR, z_VR⟩ := VR.open
    obtain ⟨s_VN, f_VN, z_VN⟩ := VN.open
    have Bo := B
    go_wp2_with fail
    refine (CA.out _ _ _ hR3).mono ?_
    rintro e wq ⟨rfl, rfl⟩
    clear hR3
    clear s_VR f_VR z_VR s_VN f_VN z_VN
    have VF := Hid.mk (VR.filled [.int .i64 3, .slice none 0 0] rfl)
    have HT := Hid.mk VR.there
    have BR := belowCells B (show w.heap.size ≤ w.heap.size by (first | omega | (simp; done) | (simp; omega))) 0 [.int .i64 3, .slice none 0 0]
    replace BR := Hid.mk BR
    obtain ⟨s_VR, f_VR, z_VR⟩ := VR.open
    obtain ⟨s_VN, f_VN, z_VN⟩ := VN.open
    go_wp2_with (refine wpList_store_mid rfl 29 _ _ rfl (w.heap.size) 0 #[.int .i64 3, .slice none 0 0] rfl rfl HT.out (by kernel_rfl) (by kernel_rfl) ?_)
    refine bodyPost_ret (v := .agg #[.int .i64 3, .slice none 0 0]) (results_row Try.results13 _ _ (w.heap.size) [.int .i64 3, .slice none 0 0] _ rfl VF.out Try.underlying29 rfl (by kernel_rfl)) rfl ⟨none, 0, rfl, own_none, BR.out⟩
  · rw [e1, e2]
    rw [h1] at CI
    rw [h2, h3, h4, Bool.and_true, Bool.and_true] at CA
    replace CI := Hid.mk CI
    have hm3 : (m : Int) > 300 := by omega
    clear e1 e2 h1 h2 h3 h4 h5
    go_enter Try.func13, Try.ntmps13
    have B := Below.refl w.heap.size w
    replace B := thenB B (belowA w (.cells #[.int .i64 0, .slice none 0 0] 29))
    have VR := V.new w [.int .i64 0, .slice none 0 0] 29
    obtain ⟨s_VR, f_VR, z_VR⟩ := VR.open
    have Bo := B
    clear s_VR f_VR z_VR
    obtain ⟨s_VR, f_VR, z_VR⟩ := VR.open
    have Bo := B
    go_wp2_with fail
    refine (CI.out _).mono ?_
    rintro e wq ⟨rfl, rfl⟩
    clear s_VR f_VR z_VR
    replace VR := VR.kept (belowA (w.alloc (.cells #[.int .i64 0, .slice none 0 0] 29)) (.cells #[.int .i64 a, .int .i64 b, .int .i64 n] 2))
    replace B := thenB B (belowA (w.alloc (.cells #[.int .i64 0, .slice none 0 0] 29)) (.cells #[.int .i64 a, .int .i64 b, .int .i64 n] 2))
    have VN : V ((w.alloc (.cells #[.int .i64 0, .slice none 0 0] 29)).alloc (.cells #[.int .i64 a, .int .i64 b, .int .i64 n] 2)) (w.heap.size + 1) [.int .i64 a, .int .i64 b, .int .i64 n] := V.newAt _ _ _ _ (by simp)
    have hR3 : Rd .i64 ((w.alloc (.cells #[.int .i64 0, .slice none 0 0] 29)).alloc (.cells #[.int .i64 a, .int .i64 b, .int .i64 n] 2)) (some ⟨w.heap.size + 1, 0, none⟩) [a, b, n] := by
      have h := (OwnI.lit (w.alloc (.cells #[.int .i64 0, .slice none 0 0] 29)) [a, b, n] [.int .i64 a, .int .i64 b, .int .i64 n] rfl (by unfold maxLen; simp)).rd
      simpa using h
    obtain ⟨s_VR, f_VR, z_VR⟩ := VR.open
    obtain ⟨s_VN, f_VN, z_VN⟩ := VN.open
    have Bo := B
    go_wp2_with fail
    refine (CA.out _ _ _ hR3).mono ?_
    rintro e wq ⟨rfl, rfl⟩
    clear hR3
    clear s_VR f_VR z_VR s_VN f_VN z_VN
    have VF := Hid.mk (VR.filled [.int .i64 2, .slice none 0 0] rfl)
    have HT := Hid.mk VR.there
    have BR := belowCells B (show w.heap.size ≤ w.heap.size by (first | omega | (simp; done) | (simp; omega))) 0 [.int .i64 2, .slice none 0 0]
    replace BR := Hid.mk BR
    obtain ⟨s_VR, f_VR, z_VR⟩ := VR.open
    obtain ⟨s_VN, f_VN, z_VN⟩ := VN.open
    go_wp2_with (refine wpList_store_mid rfl 29 _ _ rfl (w.heap.size) 0 #[.int .i64 2, .slice none 0 0] rfl rfl HT.out (by kernel_rfl) (by kernel_rfl) ?_)
    refine bodyPost_ret (v := .agg #[.int .i64 2, .slice none 0 0]) (results_row Try.results13 _ _ (w.heap.size) [.int .i64 2, .slice none 0 0] _ rfl VF.out Try.underlying29 rfl (by kernel_rfl)) rfl ⟨none, 0, rfl, own_none, BR.out⟩
  · rw [e1, e2]
    have PK := btw_iff.1 h1
    replace PK : ptIn kind 1 := ⟨by decide, by decide, by omega, by simp; omega⟩
    have PA := ptIn_4 (btw_iff.1 h2)
    have PB := ptIn_4 (btw_iff.1 h3)
    have PN := ptIn_4 (btw_iff.1 h4)
    have PM : ptIn (m : Int) 2 := ⟨by decide, by decide, by omega, by simp; omega⟩
    rw [h1] at CI
    rw [h2, h3, h4, Bool.and_true, Bool.and_true] at CA
    replace CI := Hid.mk CI
    have hm3 : (m : Int) ≤ 300 := by omega
    clear e1 e2 h1 h2 h3 h4 h5 hm
    go_enter Try.func13, Try.ntmps13
    have B := Below.refl w.heap.size w
    replace B := thenB B (belowA w (.cells #[.int .i64 0, .slice none 0 0] 29))
    have VR := V.new w [.int .i64 0, .slice none 0 0] 29
    obtain ⟨s_VR, f_VR, z_VR⟩ := VR.open
    have Bo := B
    clear s_VR f_VR z_VR
    obtain ⟨s_VR, f_VR, z_VR⟩ := VR.open
    have Bo := B
    go_wp2_with fail
    refine (CI.out _).mono ?_
    rintro e wq ⟨rfl, rfl⟩
    clear s_VR f_VR z_VR
    replace VR := VR.kept (belowA (w.alloc (.cells #[.int .i64 0, .slice none 0 0] 29)) (.cells #[.int .i64 a, .int .i64 b, .int .i64 n] 2))
    replace B := thenB B (belowA (w.alloc (.cells #[.int .i64 0, .slice none 0 0] 29)) (.cells #[.int .i64 a, .int .i64 b, .int .i64 n] 2))
    have VN : V ((w.alloc (.cells #[.int .i64 0, .slice none 0 0] 29)).alloc (.cells #[.int .i64 a, .int .i64 b, .int .i64 n] 2)) (w.heap.size + 1) [.int .i64 a, .int .i64 b, .int .i64 n] := V.newAt _ _ _ _ (by simp)
    have hR3 : Rd .i64 ((w.alloc (.cells #[.int .i64 0, .slice none 0 0] 29)).alloc (.cells #[.int .i64 a, .int .i64 b, .int .i64 n] 2)) (some ⟨w.heap.size + 1, 0, none⟩) [a, b, n] := by
      have h := (OwnI.lit (w.alloc (.cells #[.int .i64 0, .slice none 0 0] 29)) [a, b, n] [.int .i64 a, .int .i64 b, .int .i64 n] rfl (by unfold maxLen; simp)).rd
      simpa using h
    obtain ⟨s_VR, f_VR, z_VR⟩ := VR.open
    obtain ⟨s_VN, f_VN, z_VN⟩ := VN.open
    have Bo := B
    go_wp2_with fail
    refine (CA.out _ _ _ hR3).mono ?_
    rintro e wq ⟨rfl, rfl⟩
    clear hR3
    clear s_VR f_VR z_VR s_VN f_VN z_VN
    have hrB := HR.out.kept B
    have hB2 := B.size
    replace VR := VR.kept (belowA ((w.alloc (.cells #[.int .i64 0, .slice none 0 0] 29)).alloc (.cells #[.int .i64 a, .int .i64 b, .int .i64 n] 2)) (.cells #[.iface 72 (.agg #[.int .i64 32, .int .i64 1]), .iface 72 (.agg #[.int .i64 kind, .int .i64 1]), .iface 72 (.agg #[.int .i64 a, .int .i64 4]), .iface 72 (.agg #[.int .i64 b, .int .i64 4]), .iface 72 (.agg #[.int .i64 n, .int .i64 4]), .iface 72 (.agg #[.int .i64 (m : Int), .int .i64 2]), .iface 73 (.slice z m ca)] 108))
    replace VN := VN.kept (belowA ((w.alloc (.cells #[.int .i64 0, .slice none 0 0] 29)).alloc (.cells #[.int .i64 a, .int .i64 b, .int .i64 n] 2)) (.cells #[.iface 72 (.agg #[.int .i64 32, .int .i64 1]), .iface 72 (.agg #[.int .i64 kind, .int .i64 1]), .iface 72 (.agg #[.int .i64 a, .int .i64 4]), .iface 72 (.agg #[.int .i64 b, .int .i64 4]), .iface 72 (.agg #[.int .i64 n, .int .i64 4]), .iface 72 (.agg #[.int .i64 (m : Int), .int .i64 2]), .iface 73 (.slice z m ca)] 108))
    replace B := thenB B (belowA ((w.alloc (.cells #[.int .i64 0, .slice none 0 0] 29)).alloc (.cells #[.int .i64 a, .int .i64 b, .int .i64 n] 2)) (.cells #[.iface 72 (.agg #[.int .i64 32, .int .i64 1]), .iface 72 (.agg #[.int .i64 kind, .int .i64 1]), .iface 72 (.agg #[.int .i64 a, .int .i64 4]), .iface 72 (.agg #[.int .i64 b, .int .i64 4]), .iface 72 (.agg #[.int .i64 n, .int .i64 4]), .iface 72 (.agg #[.int .i64 (m : Int), .int .i64 2]), .iface 73 (.slice z m ca)] 108))
    have VP : V (((w.alloc (.cells #[.int .i64 0, .slice none 0 0] 29)).alloc (.cells #[.int .i64 a, .int .i64 b, .int .i64 n] 2)).alloc (.cells #[.iface 72 (.agg #[.int .i64 32, .int .i64 1]), .iface 72 (.agg #[.int .i64 kind, .int .i64 1]), .iface 72 (.agg #[.int .i64 a, .int .i64 4]), .iface 72 (.agg #[.int .i64 b, .int .i64 4]), .iface 72 (.agg #[.int .i64 n, .int .i64 4]), .iface 72 (.agg #[.int .i64 (m : Int), .int .i64 2]), .iface 73 (.slice z m ca)] 108)) (w.heap.size + 1 + 1) [.iface 72 (.agg #[.int .i64 32, .int .i64 1]), .iface 72 (.agg #[.int .i64 kind, .int .i64 1]), .iface 72 (.agg #[.int .i64 a, .int .i64 4]), .iface 72 (.agg #[.int .i64 b, .int .i64 4]), .iface 72 (.agg #[.int .i64 n, .int .i64 4]), .iface 72 (.agg #[.int .i64 (m : Int), .int .i64 2]), .iface 73 (.slice z m ca)] := V.newAt _ _ _ _ (by simp)
    have hsc : (((w.alloc (.cells #[.int .i64 0, .slice none 0 0] 29)).alloc (.cells #[.int .i64 a, .int .i64 b, .int .i64 n] 2)).alloc (.cells #[.iface 72 (.agg #[.int .i64 32, .int .i64 1]), .iface 72 (.agg #[.int .i64 kind, .int .i64 1]), .iface 72 (.agg #[.int .i64 a, .int .i64 4]), .iface 72 (.agg #[.int .i64 b, .int .i64 4]), .iface 72 (.agg #[.int .i64 n, .int .i64 4]), .iface 72 (.agg #[.int .i64 (m : Int), .int .i64 2]), .iface 73 (.slice z m ca)] 108)).heap.size = w.heap.size + 1 + 1 + 1 := by simp
    have WT := frame_wp kind a b n z m ca body (((w.alloc (.cells #[.int .i64 0, .slice none 0 0] 29)).alloc (.cells #[.int .i64 a, .int .i64 b, .int .i64 n] 2)).alloc (.cells #[.iface 72 (.agg #[.int .i64 32, .int .i64 1]), .iface 72 (.agg #[.int .i64 kind, .int .i64 1]), .iface 72 (.agg #[.int .i64 a, .int .i64 4]), .iface 72 (.agg #[.int .i64 b, .int .i64 4]), .iface 72 (.agg #[.int .i64 n, .int .i64 4]), .iface 72 (.agg #[.int .i64 (m : Int), .int .i64 2]), .iface 73 (.slice z m ca)] 108)) (w.heap.size + 1 + 1) PK PA PB PN PM (HR.out.kept B) (fun i hi => VP.2.1 i hi) HM.out HCA.out
    have hblk : ∀ q, (q = w.heap.size + 1 + 1 ∨ (body ≠ [] ∧ RowB z q)) → q < (((w.alloc (.cells #[.int .i64 0, .slice none 0 0] 29)).alloc (.cells #[.int .i64 a, .int .i64 b, .int .i64 n] 2)).alloc (.cells #[.iface 72 (.agg #[.int .i64 32, .int .i64 1]), .iface 72 (.agg #[.int .i64 kind, .int .i64 1]), .iface 72 (.agg #[.int .i64 a, .int .i64 4]), .iface 72 (.agg #[.int .i64 b, .int .i64 4]), .iface 72 (.agg #[.int .i64 n, .int .i64 4]), .iface 72 (.agg #[.int .i64 (m : Int), .int .i64 2]), .iface 73 (.slice z m ca)] 108)).heap.size ∧ (((w.alloc (.cells #[.int .i64 0, .slice none 0 0] 29)).alloc (.cells #[.int .i64 a, .int .i64 b, .int .i64 n] 2)).alloc (.cells #[.iface 72 (.agg #[.int .i64 32, .int .i64 1]), .iface 72 (.agg #[.int .i64 kind, .int .i64 1]), .iface 72 (.agg #[.int .i64 a, .int .i64 4]), .iface 72 (.agg #[.int .i64 b, .int .i64 4]), .iface 72 (.agg #[.int .i64 n, .int .i64 4]), .iface 72 (.agg #[.int .i64 (m : Int), .int .i64 2]), .iface 73 (.slice z m ca)] 108)).heap[q]? = (((w.alloc (.cells #[.int .i64 0, .slice none 0 0] 29)).alloc (.cells #[.int .i64 a, .int .i64 b, .int .i64 n] 2)).alloc (.cells #[.iface 72 (.agg #[.int .i64 32, .int .i64 1]), .iface 72 (.agg #[.int .i64 kind, .int .i64 1]), .iface 72 (.agg #[.int .i64 a, .int .i64 4]), .iface 72 (.agg #[.int .i64 b, .int .i64 4]), .iface 72 (.agg #[.int .i64 n, .int .i64 4]), .iface 72 (.agg #[.int .i64 (m : Int), .int .i64 2]), .iface 73 (.slice z m ca)] 108)).heap[q]? := fun q hq => ⟨by
      rcases hq with h | ⟨h, b', hb', rfl⟩
      · omega
      · subst hb'
        rcases HR.out with h' | ⟨b3, o3, e3, h3⟩
        · exact absurd h' h
        · simp only [Option.some.injEq] at e3
          subst e3
          have := World.block_lt_of_cell? (a := ⟨b3, o3 + 0, none⟩) w (h3 0 (List.length_pos_iff.2 h))
          simp only at this ⊢; omega, rfl⟩
    have hlen7 : 0 + (frmP kind a b n body).length ≤ 1000000 := by rw [frmP_len, HM.out]; omega
    have CW := Hid.mk (WT (((w.alloc (.cells #[.int .i64 0, .slice none 0 0] 29)).alloc (.cells #[.int .i64 a, .int .i64 b, .int .i64 n] 2)).alloc (.cells #[.iface 72 (.agg #[.int .i64 32, .int .i64 1]), .iface 72 (.agg #[.int .i64 kind, .int .i64 1]), .iface 72 (.agg #[.int .i64 a, .int .i64 4]), .iface 72 (.agg #[.int .i64 b, .int .i64 4]), .iface 72 (.agg #[.int .i64 n, .int .i64 4]), .iface 72 (.agg #[.int .i64 (m : Int), .int .i64 2]), .iface 73 (.slice z m ca)] 108)) w.heap.size none 0 0 [] hblk own_none rfl (by omega) (fun q hq => by obtain ⟨b, hb, _⟩ := hq; cases hb) hlen7)
    clear WT hblk hlen7
    obtain ⟨s_VR, f_VR, z_VR⟩ := VR.open
    obtain ⟨s_VN, f_VN, z_VN⟩ := VN.open
    obtain ⟨s_VP, f_VP, z_VP⟩ := VP.open
    have Bo := B
    have hcz := VR.1
    go_wp2_with fail
    refine (CW.out).mono ?_
    rintro e w70 ⟨c3, d3, rfl, W⟩
    clear s_VR f_VR z_VR s_VN f_VN z_VN s_VP f_VP z_VP
    have b70 : Below (((w.alloc (.cells #[.int .i64 0, .slice none 0 0] 29)).alloc (.cells #[.int .i64 a, .int .i64 b, .int .i64 n] 2)).alloc (.cells #[.iface 72 (.agg #[.int .i64 32, .int .i64 1]), .iface 72 (.agg #[.int .i64 kind, .int .i64 1]), .iface 72 (.agg #[.int .i64 a, .int .i64 4]), .iface 72 (.agg #[.int .i64 b, .int .i64 4]), .iface 72 (.agg #[.int .i64 n, .int .i64 4]), .iface 72 (.agg #[.int .i64 (m : Int), .int .i64 2]), .iface 73 (.slice z m ca)] 108)).heap.size (((w.alloc (.cells #[.int .i64 0, .slice none 0 0] 29)).alloc (.cells #[.int .i64 a, .int .i64 b, .int .i64 n] 2)).alloc (.cells #[.iface 72 (.agg #[.int .i64 32, .int .i64 1]), .iface 72 (.agg #[.int .i64 kind, .int .i64 1]), .iface 72 (.agg #[.int .i64 a, .int .i64 4]), .iface 72 (.agg #[.int .i64 b, .int .i64 4]), .iface 72 (.agg #[.int .i64 n, .int .i64 4]), .iface 72 (.agg #[.int .i64 (m : Int), .int .i64 2]), .iface 73 (.slice z m ca)] 108)) w70 := W.sm.below' (Below.refl _ _) (Nat.le_refl _) (fun q hq => by obtain ⟨b, hb, _⟩ := hq; cases hb)
    have O := W.own
    rw [List.nil_append] at O
    have OLr : ∀ ad : Addr, c3 = some ad → (((w.alloc (.cells #[.int .i64 0, .slice none 0 0] 29)).alloc (.cells #[.int .i64 a, .int .i64 b, .int .i64 n] 2)).alloc (.cells #[.iface 72 (.agg #[.int .i64 32, .int .i64 1]), .iface 72 (.agg #[.int .i64 kind, .int .i64 1]), .iface 72 (.agg #[.int .i64 a, .int .i64 4]), .iface 72 (.agg #[.int .i64 b, .int .i64 4]), .iface 72 (.agg #[.int .i64 n, .int .i64 4]), .iface 72 (.agg #[.int .i64 (m : Int), .int .i64 2]), .iface 73 (.slice z m ca)] 108)).heap.size ≤ ad.block := fun ad hb => by
      rcases W.lies ad.block ⟨ad, hb, rfl⟩ with ⟨b', h', _⟩ | h
      · cases h'
      · exact h
    have hS70 := b70.size
    replace VR := VR.kept b70
    replace B := thenB B b70
    have OL : Hid (∀ b : Addr, c3 = some b → w.heap.size < b.block) := Hid.mk (fun b hb => Nat.lt_of_lt_of_le hcz (OLr b hb))
    clear W OLr b70 hcz VN VP CW
    obtain ⟨l, hl⟩ : ∃ l, (frmP kind a b n body).length = l := ⟨_, rfl⟩
    rw [hl]
    replace hl := Hid.mk hl
    simp only [Nat.zero_add]
    obtain ⟨s_VR, f_VR, z_VR⟩ := VR.open
    have Bo := B
    clear s_VR f_VR z_VR
    have VF := Hid.mk (VR.filled [.int .i64 0, .slice c3 l d3] rfl)
    have HT := Hid.mk VR.there
    have BR := belowCells B (show w.heap.size ≤ w.heap.size by (first | omega | (simp; done) | (simp; omega))) 0 [.int .i64 0, .slice c3 l d3]
    replace BR := Hid.mk BR
    have HO := Hid.mk ((O.mono (show w.heap.size ≤ _ by first | omega | (simp; done) | (simp; omega))).apart8 (B := w.heap.size) (by intro b hb; have := OL.out b hb; first | omega | (simp at this; omega)) 0 [.int .i64 0, .slice c3 l d3])
    obtain ⟨s_VR, f_VR, z_VR⟩ := VR.open
    go_wp2_with (refine wpList_store_mid rfl 29 _ _ rfl (w.heap.size) 0 #[.int .i64 0, .slice c3 l d3] rfl rfl HT.out (by kernel_rfl) (by kernel_rfl) ?_)
    refine bodyPost_ret (v := .agg #[.int .i64 0, .slice c3 l d3]) (results_row Try.results13 _ _ (w.heap.size) [.int .i64 0, .slice c3 l d3] _ rfl VF.out Try.underlying29 rfl (by kernel_rfl)) rfl ⟨c3, d3, by first | rfl | rw [hl.out], HO.out, BR.out⟩

end Go.Proofs.Ytfldgeokigcokaa
