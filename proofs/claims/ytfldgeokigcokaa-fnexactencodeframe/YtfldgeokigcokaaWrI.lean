/- EncodeFrame: the model. -/
import Derived.Test.YtfldgeokigcokaaWrC
import Derived.Test.YtfldgeokigcokaaWrF
namespace Go.Proofs.Ytfldgeokigcokaa
open Go.RowKit

set_option maxHeartbeats 1000000 in
theorem l7Word_ok (x : Int) (w : World) : Calls Try.prog 52 #[.int .i64 x] w fun e w' => e = .returned (.bool (btw x 0 4294967295)) ∧ w' = w := by
  have CI := Hid.mk (l1In_ok x 0 4294967295)
  go_enter Try.func52, Try.ntmps52
  go_wp2_with fail
  refine (CI.out _).mono ?_
  rintro e wq ⟨rfl, rfl⟩
  go_wp2
  go_ret
  exact ⟨rfl, rfl⟩

set_option maxRecDepth 20000 in
set_option maxHeartbeats 8000000 in
theorem specEncodeFrame_ok (kind a b n : Int) (z : Option Addr) (m ca : Nat) (body : List Int) (w : World) (hr : Rd .u8 w z body) (hm : body.length = m) (hx : m ≤ maxLen) (hca : z = none → ca = 0) :
    Calls Try.prog 15 #[.int .i64 kind, .int .i64 a, .int .i64 b, .int .i64 n, .slice z m ca] w fun e w' => ∃ c d, e = .returned (.agg #[.int .i64 (frmC kind a b n body), .slice c (frmB kind a b n body).length d]) ∧ Own .u8 5 w' w.heap.size c d (frmB kind a b n body) ∧ Below w.heap.size w w' := by
  have q1 := build_brc
  have q2 := build_brv
  have CI := l1In_ok kind 1 9
  have CWa := l7Word_ok a
  have CWb := l7Word_ok b
  have CWn := l7Word_ok n
  have HR := Hid.mk hr
  unfold maxLen at hx
  have HW := fr_ways kind a b n body
  have HFL := frmP_len kind a b n body
  rw [hm] at HW HFL
  have HFP : ((((([32, kind] ++ putN a 4) ++ putN b 4) ++ putN n 4) ++ putN (m : Int) 2) ++ body) = frmP kind a b n body := by unfold frmP; rw [hm]
  replace HFP := Hid.mk HFP
  replace HFL := Hid.mk HFL
  rcases HW with ⟨h1, e1, e2⟩ | ⟨h1, h2, e1, e2⟩ | ⟨h1, h2, h3, e1, e2⟩ | ⟨h1, h2, h3, h4, e1, e2⟩ | ⟨h1, h2, h3, h4, h5, e1, e2⟩ | ⟨h1, h2, h3, h4, h5, e1, e2⟩
  · skip
    rw [e1, e2]
    rw [h1] at CI
    replace CI := Hid.mk CI
    replace CWa := Hid.mk CWa
    replace CWb := Hid.mk CWb
    replace CWn := Hid.mk CWn
    clear e1 e2
    go_enter Try.func15, Try.ntmps15
    have B := Below.refl w.heap.size w
    replace B := thenB B (belowA w (.cells #[.int .i64 0, .slice none 0 0] 29))
    have VR := V.new w [.int .i64 0, .slice none 0 0] 29
    obtain ⟨s_VR, f_VR, z_VR⟩ := VR.open
    have Bo := B
    clear s_VR f_VR z_VR
    have VF := Hid.mk (VR.filled [.int .i64 3, .slice none 0 0] rfl)
    have HT := Hid.mk VR.there
    have BR := belowCells B (show w.heap.size ≤ w.heap.size by (first | omega | (simp; done) | (simp; omega))) 0 [.int .i64 3, .slice none 0 0]
    replace BR := Hid.mk BR
    obtain ⟨s_VR, f_VR, z_VR⟩ := VR.open
    go_wp2_with (first | (go_at_call 47; refine (CI.out _).mono ?_; rintro e wq ⟨rfl, rfl⟩) | (go_at_call 52; (first | refine (CWa.out _).mono ?_ | refine (CWb.out _).mono ?_ | refine (CWn.out _).mono ?_); rintro e wq ⟨rfl, rfl⟩) | (refine wpList_store_mid rfl 29 _ _ rfl (w.heap.size) 0 #[.int .i64 3, .slice none 0 0] rfl rfl HT.out (by kernel_rfl) (by kernel_rfl) ?_))
    refine bodyPost_ret (v := .agg #[.int .i64 3, .slice none 0 0]) (results_row Try.results15 _ _ (w.heap.size) [.int .i64 3, .slice none 0 0] _ rfl VF.out Try.underlying29 rfl (by kernel_rfl)) rfl ⟨none, 0, rfl, own_none, BR.out⟩
  · skip
    rw [e1, e2]
    rw [h1] at CI
    rw [h2] at CWa
    replace CI := Hid.mk CI
    replace CWa := Hid.mk CWa
    replace CWb := Hid.mk CWb
    replace CWn := Hid.mk CWn
    clear e1 e2
    go_enter Try.func15, Try.ntmps15
    have B := Below.refl w.heap.size w
    replace B := thenB B (belowA w (.cells #[.int .i64 0, .slice none 0 0] 29))
    have VR := V.new w [.int .i64 0, .slice none 0 0] 29
    obtain ⟨s_VR, f_VR, z_VR⟩ := VR.open
    have Bo := B
    clear s_VR f_VR z_VR
    have VF := Hid.mk (VR.filled [.int .i64 3, .slice none 0 0] rfl)
    have HT := Hid.mk VR.there
    have BR := belowCells B (show w.heap.size ≤ w.heap.size by (first | omega | (simp; done) | (simp; omega))) 0 [.int .i64 3, .slice none 0 0]
    replace BR := Hid.mk BR
    obtain ⟨s_VR, f_VR, z_VR⟩ := VR.open
    go_wp2_with (first | (go_at_call 47; refine (CI.out _).mono ?_; rintro e wq ⟨rfl, rfl⟩) | (go_at_call 52; (first | refine (CWa.out _).mono ?_ | refine (CWb.out _).mono ?_ | refine (CWn.out _).mono ?_); rintro e wq ⟨rfl, rfl⟩) | (refine wpList_store_mid rfl 29 _ _ rfl (w.heap.size) 0 #[.int .i64 3, .slice none 0 0] rfl rfl HT.out (by kernel_rfl) (by kernel_rfl) ?_))
    refine bodyPost_ret (v := .agg #[.int .i64 3, .slice none 0 0]) (results_row Try.results15 _ _ (w.heap.size) [.int .i64 3, .slice none 0 0] _ rfl VF.out Try.underlying29 rfl (by kernel_rfl)) rfl ⟨none, 0, rfl, own_none, BR.out⟩
  · skip
    rw [e1, e2]
    rw [h1] at CI
    rw [h2] at CWa
    rw [h3] at CWb
    replace CI := Hid.mk CI
    replace CWa := Hid.mk CWa
    replace CWb := Hid.mk CWb
    replace CWn := Hid.mk CWn
    clear e1 e2
    go_enter Try.func15, Try.ntmps15
    have B := Below.refl w.heap.size w
    replace B := thenB B (belowA w (.cells #[.int .i64 0, .slice none 0 0] 29))
    have VR := V.new w [.int .i64 0, .slice none 0 0] 29
    obtain ⟨s_VR, f_VR, z_VR⟩ := VR.open
    have Bo := B
    clear s_VR f_VR z_VR
    have VF := Hid.mk (VR.filled [.int .i64 3, .slice none 0 0] rfl)
    have HT := Hid.mk VR.there
    have BR := belowCells B (show w.heap.size ≤ w.heap.size by (first | omega | (simp; done) | (simp; omega))) 0 [.int .i64 3, .slice none 0 0]
    replace BR := Hid.mk BR
    obtain ⟨s_VR, f_VR, z_VR⟩ := VR.open
    go_wp2_with (first | (go_at_call 47; refine (CI.out _).mono ?_; rintro e wq ⟨rfl, rfl⟩) | (go_at_call 52; (first | refine (CWa.out _).mono ?_ | refine (CWb.out _).mono ?_ | refine (CWn.out _).mono ?_); rintro e wq ⟨rfl, rfl⟩) | (refine wpList_store_mid rfl 29 _ _ rfl (w.heap.size) 0 #[.int .i64 3, .slice none 0 0] rfl rfl HT.out (by kernel_rfl) (by kernel_rfl) ?_))
    refine bodyPost_ret (v := .agg #[.int .i64 3, .slice none 0 0]) (results_row Try.results15 _ _ (w.heap.size) [.int .i64 3, .slice none 0 0] _ rfl VF.out Try.underlying29 rfl (by kernel_rfl)) rfl ⟨none, 0, rfl, own_none, BR.out⟩
  · skip
    rw [e1, e2]
    rw [h1] at CI
    rw [h2] at CWa
    rw [h3] at CWb
    rw [h4] at CWn
    replace CI := Hid.mk CI
    replace CWa := Hid.mk CWa
    replace CWb := Hid.mk CWb
    replace CWn := Hid.mk CWn
    clear e1 e2
    go_enter Try.func15, Try.ntmps15
    have B := Below.refl w.heap.size w
    replace B := thenB B (belowA w (.cells #[.int .i64 0, .slice none 0 0] 29))
    have VR := V.new w [.int .i64 0, .slice none 0 0] 29
    obtain ⟨s_VR, f_VR, z_VR⟩ := VR.open
    have Bo := B
    clear s_VR f_VR z_VR
    have VF := Hid.mk (VR.filled [.int .i64 3, .slice none 0 0] rfl)
    have HT := Hid.mk VR.there
    have BR := belowCells B (show w.heap.size ≤ w.heap.size by (first | omega | (simp; done) | (simp; omega))) 0 [.int .i64 3, .slice none 0 0]
    replace BR := Hid.mk BR
    obtain ⟨s_VR, f_VR, z_VR⟩ := VR.open
    go_wp2_with (first | (go_at_call 47; refine (CI.out _).mono ?_; rintro e wq ⟨rfl, rfl⟩) | (go_at_call 52; (first | refine (CWa.out _).mono ?_ | refine (CWb.out _).mono ?_ | refine (CWn.out _).mono ?_); rintro e wq ⟨rfl, rfl⟩) | (refine wpList_store_mid rfl 29 _ _ rfl (w.heap.size) 0 #[.int .i64 3, .slice none 0 0] rfl rfl HT.out (by kernel_rfl) (by kernel_rfl) ?_))
    refine bodyPost_ret (v := .agg #[.int .i64 3, .slice none 0 0]) (results_row Try.results15 _ _ (w.heap.size) [.int .i64 3, .slice none 0 0] _ rfl VF.out Try.underlying29 rfl (by kernel_rfl)) rfl ⟨none, 0, rfl, own_none, BR.out⟩
  · skip
    rw [e1, e2]
    rw [h1] at CI
    rw [h2] at CWa
    rw [h3] at CWb
    rw [h4] at CWn
    have hm3 : (m : Int) > 300 := by omega
    replace CI := Hid.mk CI
    replace CWa := Hid.mk CWa
    replace CWb := Hid.mk CWb
    replace CWn := Hid.mk CWn
    clear e1 e2
    go_enter Try.func15, Try.ntmps15
    have B := Below.refl w.heap.size w
    replace B := thenB B (belowA w (.cells #[.int .i64 0, .slice none 0 0] 29))
    have VR := V.new w [.int .i64 0, .slice none 0 0] 29
    obtain ⟨s_VR, f_VR, z_VR⟩ := VR.open
    have Bo := B
    clear s_VR f_VR z_VR
    have VF := Hid.mk (VR.filled [.int .i64 2, .slice none 0 0] rfl)
    have HT := Hid.mk VR.there
    have BR := belowCells B (show w.heap.size ≤ w.heap.size by (first | omega | (simp; done) | (simp; omega))) 0 [.int .i64 2, .slice none 0 0]
    replace BR := Hid.mk BR
    obtain ⟨s_VR, f_VR, z_VR⟩ := VR.open
    go_wp2_with (first | (go_at_call 47; refine (CI.out _).mono ?_; rintro e wq ⟨rfl, rfl⟩) | (go_at_call 52; (first | refine (CWa.out _).mono ?_ | refine (CWb.out _).mono ?_ | refine (CWn.out _).mono ?_); rintro e wq ⟨rfl, rfl⟩) | (refine wpList_store_mid rfl 29 _ _ rfl (w.heap.size) 0 #[.int .i64 2, .slice none 0 0] rfl rfl HT.out (by kernel_rfl) (by kernel_rfl) ?_))
    refine bodyPost_ret (v := .agg #[.int .i64 2, .slice none 0 0]) (results_row Try.results15 _ _ (w.heap.size) [.int .i64 2, .slice none 0 0] _ rfl VF.out Try.underlying29 rfl (by kernel_rfl)) rfl ⟨none, 0, rfl, own_none, BR.out⟩
  · skip
    rw [e1, e2]
    rw [h1] at CI
    rw [h2] at CWa
    rw [h3] at CWb
    rw [h4] at CWn
    have hm3 : (m : Int) ≤ 300 := by omega
    obtain ⟨i0, hi, q00, q01, q02⟩ := info_parts Try.info_u8
    have g1 := btw_iff.1 h1
    have g2 := btw_iff.1 h2
    have g3 := btw_iff.1 h3
    have g4 := btw_iff.1 h4
    obtain ⟨k0, k9⟩ := g1
    have k00 : 0 ≤ kind := by omega
    have k25 : kind < 256 := by omega
    have C4a := Hid.mk (fun w => l1Bytes_ok a 4 w g2.1 (by omega))
    have C4b := Hid.mk (fun w => l1Bytes_ok b 4 w g3.1 (by omega))
    have C4n := Hid.mk (fun w => l1Bytes_ok n 4 w g4.1 (by omega))
    have C2m := Hid.mk (fun w => l1Bytes_ok (m : Int) 2 w (by omega) (by omega))
    replace CI := Hid.mk CI
    replace CWa := Hid.mk CWa
    replace CWb := Hid.mk CWb
    replace CWn := Hid.mk CWn
    clear e1 e2
    go_enter Try.func15, Try.ntmps15
    have B := Below.refl w.heap.size w
    replace B := thenB B (belowA w (.cells #[.int .i64 0, .slice none 0 0] 29))
    have VR := V.new w [.int .i64 0, .slice none 0 0] 29
    obtain ⟨s_VR, f_VR, z_VR⟩ := VR.open
    have Bo := B
    clear s_VR f_VR z_VR
    have OO := Own.lit (w.alloc (.cells #[.int .i64 0, .slice none 0 0] 29)) 5 [32, kind] (by unfold maxLen; simp)
    simp only [World.size_alloc, List.length_cons, List.length_nil] at OO
    replace VR := VR.kept (belowA (w.alloc (.cells #[.int .i64 0, .slice none 0 0] 29)) (.cells #[.int .u8 32, .int .u8 kind] 5))
    replace B := thenB B (belowA (w.alloc (.cells #[.int .i64 0, .slice none 0 0] 29)) (.cells #[.int .u8 32, .int .u8 kind] 5))
    have OQ := Hid.mk OO
    clear OO Bo
    obtain ⟨s_VR, f_VR, z_VR⟩ := VR.open
    go_wp2_with (first | (go_at_call 47; refine (CI.out _).mono ?_; rintro e wq ⟨rfl, rfl⟩) | (go_at_call 52; (first | refine (CWa.out _).mono ?_ | refine (CWb.out _).mono ?_ | refine (CWn.out _).mono ?_); rintro e wq ⟨rfl, rfl⟩) | fail)
    refine (C4a.out _).mono ?_
    rintro e wa1 ⟨ca1, da1, rfl, Oa1, ba1⟩
    clear s_VR f_VR z_VR
    have P1 := Hid.mk (OQ.out.kept ba1)
    have Na1 := Hid.mk Oa1.nocap
    have Ra1 := Hid.mk Oa1.rd
    have Sa1 := ba1.size
    try simp only [World.size_alloc] at Sa1
    replace VR := VR.kept ba1
    replace B := thenB B ba1
    clear ba1 Oa1 OQ
    replace B := Hid.mk B
    replace VR := Hid.mk VR
    go_wp2_with (at_builtin; go_loud (refine wpList_put _ rfl _ _ 22 rfl (w.heap.size + 1) 5 i0 Try.underlying22 hi q00 q01 q02 _ _ 2 _ rfl P1.out rfl _ 4 _ _ rfl Ra1.out (length_putN _ _) Na1.out 6 ([32, kind] ++ putN a 4) (by omega) rfl (by omega) (by omega) ?_))
    intro cb1 db1 wb1 Ob1 bb1
    have Sb1 : w.heap.size + 1 ≤ wb1.heap.size := by have h1 := Ob1.some_of (by simp); obtain ⟨g4, rfl, h3⟩ := h1; have := (Ob1.lt _ rfl).2; simp only at this; omega
    clear P1
    replace VR := VR.out.keptB (by omega) bb1
    replace B := B.out.trans (bb1.mono (by omega))
    have Q1 := Hid.mk Ob1
    clear bb1 Ob1
    obtain ⟨s_VR, f_VR, z_VR⟩ := VR.open
    go_wp2_with (first | (go_at_call 47; refine (CI.out _).mono ?_; rintro e wq ⟨rfl, rfl⟩) | (go_at_call 52; (first | refine (CWa.out _).mono ?_ | refine (CWb.out _).mono ?_ | refine (CWn.out _).mono ?_); rintro e wq ⟨rfl, rfl⟩) | fail)
    refine (C4b.out _).mono ?_
    rintro e wa2 ⟨ca2, da2, rfl, Oa2, ba2⟩
    clear s_VR f_VR z_VR
    have P2 := Hid.mk (Q1.out.kept ba2)
    have Na2 := Hid.mk Oa2.nocap
    have Ra2 := Hid.mk Oa2.rd
    have Sa2 := ba2.size
    try simp only [World.size_alloc] at Sa2
    replace VR := VR.kept ba2
    replace B := thenB B ba2
    clear ba2 Oa2 Q1
    replace B := Hid.mk B
    replace VR := Hid.mk VR
    go_wp2_with (at_builtin; go_loud (refine wpList_put _ rfl _ _ 22 rfl (w.heap.size + 1) 5 i0 Try.underlying22 hi q00 q01 q02 _ _ 6 _ rfl P2.out (by simp [length_putN]) _ 4 _ _ rfl Ra2.out (length_putN _ _) Na2.out 10 (([32, kind] ++ putN a 4) ++ putN b 4) (by omega) rfl (by omega) (by omega) ?_))
    intro cb2 db2 wb2 Ob2 bb2
    have Sb2 : w.heap.size + 1 ≤ wb2.heap.size := by have h1 := Ob2.some_of (by simp); obtain ⟨g4, rfl, h3⟩ := h1; have := (Ob2.lt _ rfl).2; simp only at this; omega
    clear P2
    replace VR := VR.out.keptB (by omega) bb2
    replace B := B.out.trans (bb2.mono (by omega))
    have Q2 := Hid.mk Ob2
    clear bb2 Ob2
    obtain ⟨s_VR, f_VR, z_VR⟩ := VR.open
    go_wp2_with (first | (go_at_call 47; refine (CI.out _).mono ?_; rintro e wq ⟨rfl, rfl⟩) | (go_at_call 52; (first | refine (CWa.out _).mono ?_ | refine (CWb.out _).mono ?_ | refine (CWn.out _).mono ?_); rintro e wq ⟨rfl, rfl⟩) | fail)
    refine (C4n.out _).mono ?_
    rintro e wa3 ⟨ca3, da3, rfl, Oa3, ba3⟩
    clear s_VR f_VR z_VR
    have P3 := Hid.mk (Q2.out.kept ba3)
    have Na3 := Hid.mk Oa3.nocap
    have Ra3 := Hid.mk Oa3.rd
    have Sa3 := ba3.size
    try simp only [World.size_alloc] at Sa3
    replace VR := VR.kept ba3
    replace B := thenB B ba3
    clear ba3 Oa3 Q2
    replace B := Hid.mk B
    replace VR := Hid.mk VR
    go_wp2_with (at_builtin; go_loud (refine wpList_put _ rfl _ _ 22 rfl (w.heap.size + 1) 5 i0 Try.underlying22 hi q00 q01 q02 _ _ 10 _ rfl P3.out (by simp [length_putN]) _ 4 _ _ rfl Ra3.out (length_putN _ _) Na3.out 14 ((([32, kind] ++ putN a 4) ++ putN b 4) ++ putN n 4) (by omega) rfl (by omega) (by omega) ?_))
    intro cb3 db3 wb3 Ob3 bb3
    have Sb3 : w.heap.size + 1 ≤ wb3.heap.size := by have h1 := Ob3.some_of (by simp); obtain ⟨g4, rfl, h3⟩ := h1; have := (Ob3.lt _ rfl).2; simp only at this; omega
    clear P3
    replace VR := VR.out.keptB (by omega) bb3
    replace B := B.out.trans (bb3.mono (by omega))
    have Q3 := Hid.mk Ob3
    clear bb3 Ob3
    obtain ⟨s_VR, f_VR, z_VR⟩ := VR.open
    go_wp2_with (first | (go_at_call 47; refine (CI.out _).mono ?_; rintro e wq ⟨rfl, rfl⟩) | (go_at_call 52; (first | refine (CWa.out _).mono ?_ | refine (CWb.out _).mono ?_ | refine (CWn.out _).mono ?_); rintro e wq ⟨rfl, rfl⟩) | fail)
    refine (C2m.out _).mono ?_
    rintro e wa4 ⟨ca4, da4, rfl, Oa4, ba4⟩
    clear s_VR f_VR z_VR
    have P4 := Hid.mk (Q3.out.kept ba4)
    have Na4 := Hid.mk Oa4.nocap
    have Ra4 := Hid.mk Oa4.rd
    have Sa4 := ba4.size
    try simp only [World.size_alloc] at Sa4
    replace VR := VR.kept ba4
    replace B := thenB B ba4
    clear ba4 Oa4 Q3
    replace B := Hid.mk B
    replace VR := Hid.mk VR
    go_wp2_with (at_builtin; go_loud (refine wpList_put _ rfl _ _ 22 rfl (w.heap.size + 1) 5 i0 Try.underlying22 hi q00 q01 q02 _ _ 14 _ rfl P4.out (by simp [length_putN]) _ 2 _ _ rfl Ra4.out (length_putN _ _) Na4.out 16 (((([32, kind] ++ putN a 4) ++ putN b 4) ++ putN n 4) ++ putN (m : Int) 2) (by omega) rfl (by omega) (by omega) ?_))
    intro cb4 db4 wb4 Ob4 bb4
    have Sb4 : w.heap.size + 1 ≤ wb4.heap.size := by have h1 := Ob4.some_of (by simp); obtain ⟨g4, rfl, h3⟩ := h1; have := (Ob4.lt _ rfl).2; simp only at this; omega
    clear P4
    replace VR := VR.out.keptB (by omega) bb4
    replace B := B.out.trans (bb4.mono (by omega))
    have Q4 := Hid.mk Ob4
    clear bb4 Ob4
    have RB := Hid.mk (HR.out.kept B)
    replace B := Hid.mk B
    replace VR := Hid.mk VR
    go_wp2_with (at_builtin; go_loud (refine wpList_put _ rfl _ _ 22 rfl (w.heap.size + 1) 5 i0 Try.underlying22 hi q00 q01 q02 _ _ 16 _ rfl Q4.out (by simp [length_putN]) _ m _ _ rfl RB.out hm hca (16 + m) (frmP kind a b n body) (by omega) HFP.out (by omega) (by omega) ?_))
    intro c9 d9 w9 O b9
    replace VR := VR.out.keptB (by omega) b9
    replace B := B.out.trans (b9.mono (by omega))
    clear b9 Q4
    have OL := Hid.mk (fun b hb => (O.lt b hb).1)
    have VF := Hid.mk (VR.filled [.int .i64 0, .slice c9 (16 + m) d9] rfl)
    have HT := Hid.mk VR.there
    have BR := belowCells B (show w.heap.size ≤ w.heap.size by (first | omega | (simp; done) | (simp; omega))) 0 [.int .i64 0, .slice c9 (16 + m) d9]
    replace BR := Hid.mk BR
    have HO := Hid.mk ((O.mono (show w.heap.size ≤ _ by omega)).apart8 (B := w.heap.size) (by intro b hb; have := OL.out b hb; omega) 0 [.int .i64 0, .slice c9 (16 + m) d9])
    obtain ⟨s_VR, f_VR, z_VR⟩ := VR.open
    go_wp2_with (first | (go_at_call 47; refine (CI.out _).mono ?_; rintro e wq ⟨rfl, rfl⟩) | (go_at_call 52; (first | refine (CWa.out _).mono ?_ | refine (CWb.out _).mono ?_ | refine (CWn.out _).mono ?_); rintro e wq ⟨rfl, rfl⟩) | (refine wpList_store_mid rfl 29 _ _ rfl (w.heap.size) 0 #[.int .i64 0, .slice c9 (16 + m) d9] rfl rfl HT.out (by kernel_rfl) (by kernel_rfl) ?_))
    refine bodyPost_ret (v := .agg #[.int .i64 0, .slice c9 (16 + m) d9]) (results_row Try.results15 _ _ (w.heap.size) [.int .i64 0, .slice c9 (16 + m) d9] _ rfl VF.out Try.underlying29 rfl (by kernel_rfl)) rfl ⟨c9, d9, by rw [HFL.out], HO.out, BR.out⟩

end Go.Proofs.Ytfldgeokigcokaa
