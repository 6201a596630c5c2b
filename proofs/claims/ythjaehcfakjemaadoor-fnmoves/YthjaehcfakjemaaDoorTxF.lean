/- TermText: both sides. -/
import Derived.Test.YthjaehcfakjemaaDoorFmb
import Derived.Test.YthjaehcfakjemaaDoorTxB
import Derived.Test.YthjaehcfakjemaaDoorTmW
import Derived.Test.YthjaehcfakjemaaDoorRkA
import Derived.Test.YthjaehcfakjemaaDoorFill
namespace Go.Proofs.YthjaehcfakjemaaDoor
open Go.RowKit

/-- The code of a text, and the text. -/
@[irreducible] def ttC (xs : List T4) (q : Int) : Int := if akC xs q = 0 then (if 200 < (den xs q.toNat).sz then 2 else 0) else akC xs q
@[irreducible] def ttT (xs : List T4) (q : Int) : ByteArray := if akC xs q = 0 then (if 200 < (den xs q.toNat).sz then ⟨#[]⟩ else txt xs q.toNat) else ⟨#[]⟩

theorem tt_ways (xs : List T4) (q : Int) : (akC xs q ≠ 0 ∧ ttC xs q = akC xs q ∧ ttT xs q = ⟨#[]⟩) ∨ (akC xs q = 0 ∧ 200 < (den xs q.toNat).sz ∧ ttC xs q = 2 ∧ ttT xs q = ⟨#[]⟩) ∨ (akC xs q = 0 ∧ ¬ 200 < (den xs q.toNat).sz ∧ ttC xs q = 0 ∧ ttT xs q = txt xs q.toNat) := by
  unfold ttC ttT
  by_cases h : akC xs q = 0
  · by_cases h2 : 200 < (den xs q.toNat).sz
    · exact .inr (.inl ⟨h, h2, by rw [if_pos h, if_pos h2], by rw [if_pos h, if_pos h2]⟩)
    · exact .inr (.inr ⟨h, h2, by rw [if_pos h, if_neg h2], by rw [if_pos h, if_neg h2]⟩)
  · exact .inl ⟨h, by rw [if_neg h], by rw [if_neg h]⟩

theorem build_tr0 (k : Int) (w : World) : (Instr.build 33 #[(0, .int .i64 k)]).run Tryd.prog w = .ok (.agg #[.int .i64 k, .string ⟨#[]⟩]) w := run_build w 33 _ _ (by kernel_rfl)

theorem build_tr1 (s : ByteArray) (w : World) : (Instr.build 33 #[(1, .string s)]).run Tryd.prog w = .ok (.agg #[.int .i64 0, .string s]) w := run_build w 33 _ _ (by kernel_rfl)


set_option maxRecDepth 20000 in
set_option maxHeartbeats 4000000 in
theorem specTermText_ok (a : Option Addr) (n ca : Nat) (xs : List T4) (q : Int) (w : World) (ha : RdTerm w a xs) (hn : xs.length = n) (hx : n ≤ maxLen) (hca : n ≤ ca) :
    Calls Tryd.prog 15 #[.slice a n ca, .int .i64 q] w fun e w' => e = .returned (.agg #[.int .i64 (ttC xs q), .string (ttT xs q)]) ∧ Below w.heap.size w w' := by
  have q1 := build_tr0
  have q2 := build_tr1
  have CA := Hid.mk (fun w h => l5Asked_ok a n ca xs q w h hn hx hca)
  rcases tt_ways xs q with ⟨h1, e1, e2⟩ | ⟨h1, hs, e1, e2⟩ | ⟨h1, hs, e1, e2⟩
  · rw [e1, e2]
    have h2 : (akC xs q != 0) = true := by simp [h1]
    clear e1 e2 h1
    generalize akC xs q = kk at *
    go_enter Tryd.func15, Tryd.ntmps15
    have B := Below.refl w.heap.size w
    replace ha := ha.kept (belowA w (.cells #[.int .i64 0, .string ⟨#[]⟩] 33))
    replace B := thenB B (belowA w (.cells #[.int .i64 0, .string ⟨#[]⟩] 33))
    have VR := V.new w [.int .i64 0, .string ⟨#[]⟩] 33
    obtain ⟨s_VR, f_VR, z_VR⟩ := VR.open
    have Bo := B
    go_wp2_with fail
    refine (CA.out _ ha).mono ?_
    rintro e w1 ⟨rfl, b1⟩
    clear s_VR f_VR z_VR
    have S1 := b1.size
    simp only [World.size_alloc] at S1
    replace VR := VR.kept b1
    replace ha := ha.kept b1
    replace B := thenB B b1
    clear b1
    obtain ⟨s_VR, f_VR, z_VR⟩ := VR.open
    have Bo := B
    clear s_VR f_VR z_VR
    have VF := Hid.mk (VR.filled [.int .i64 kk, .string ⟨#[]⟩] rfl)
    have HT := Hid.mk VR.there
    have BR := belowCells B (show w.heap.size ≤ w.heap.size by (first | omega | (simp; done) | (simp; omega))) 0 [.int .i64 kk, .string ⟨#[]⟩]
    replace BR := Hid.mk BR
    obtain ⟨s_VR, f_VR, z_VR⟩ := VR.open
    go_wp2_with (refine wpList_store_mid rfl 33 _ _ rfl (w.heap.size) 0 #[.int .i64 kk, .string ⟨#[]⟩] rfl rfl HT.out (by kernel_rfl) (by kernel_rfl) ?_)
    refine bodyPost_ret (v := .agg #[.int .i64 kk, .string ⟨#[]⟩]) (results_row Tryd.results15 _ _ (w.heap.size) [.int .i64 kk, .string ⟨#[]⟩] _ rfl VF.out Tryd.underlying33 rfl (by kernel_rfl)) rfl ⟨rfl, BR.out⟩
  · rw [e1, e2]
    rw [h1] at CA
    obtain ⟨hv, hq0, hq1⟩ := ak_zero h1
    obtain ⟨m, rfl⟩ : ∃ m : Nat, q = (m : Int) := ⟨q.toNat, by omega⟩
    rw [Int.toNat_natCast] at *
    have hm1 : (m : Int) < (n : Int) := by omega
    have hmn : m < n := by omega
    have CS := Hid.mk (fun w h => l5Sizes_ok a n ca xs w h hn hv)
    have hzm := szL_at xs n m (by omega)
    have hzl := szL_len xs n
    obtain ⟨s, hs2⟩ : ∃ s, (den xs m).sz = s := ⟨_, rfl⟩
    rw [hs2] at hs hzm
    replace hzm := Hid.mk hzm
    replace hzl := Hid.mk hzl
    clear e1 e2 h1 hq0 hq1 hv hs2
    go_enter Tryd.func15, Tryd.ntmps15
    have B := Below.refl w.heap.size w
    replace ha := ha.kept (belowA w (.cells #[.int .i64 0, .string ⟨#[]⟩] 33))
    replace B := thenB B (belowA w (.cells #[.int .i64 0, .string ⟨#[]⟩] 33))
    have VR := V.new w [.int .i64 0, .string ⟨#[]⟩] 33
    obtain ⟨s_VR, f_VR, z_VR⟩ := VR.open
    have Bo := B
    go_wp2_with fail
    refine (CA.out _ ha).mono ?_
    rintro e w21 ⟨rfl, b21⟩
    clear s_VR f_VR z_VR
    have S21 := b21.size
    simp only [World.size_alloc] at S21
    replace VR := VR.kept b21
    replace ha := ha.kept b21
    replace B := thenB B b21
    clear b21
    obtain ⟨s_VR, f_VR, z_VR⟩ := VR.open
    have Bo := B
    go_wp2_with fail
    refine (CS.out _ ha).mono ?_
    rintro e w22 ⟨c, d, rfl, O, b22⟩
    clear s_VR f_VR z_VR
    have S22 := b22.size
    replace VR := VR.kept b22
    replace ha := ha.kept b22
    replace B := thenB B b22
    clear b22
    obtain ⟨s_VR, f_VR, z_VR⟩ := VR.open
    have Bo := B
    rcases O.rd with h0 | ⟨b1, o1, rfl, hca2⟩
    · have := hzl.out; rw [h0] at this; simp at this; omega
    have p0 := hca2 m (by have := hzl.out; omega)
    rw [hzm.out] at p0
    clear hca2
    clear s_VR f_VR z_VR
    have VF := Hid.mk (VR.filled [.int .i64 2, .string ⟨#[]⟩] rfl)
    have HT := Hid.mk VR.there
    have BR := belowCells B (show w.heap.size ≤ w.heap.size by (first | omega | (simp; done) | (simp; omega))) 0 [.int .i64 2, .string ⟨#[]⟩]
    replace BR := Hid.mk BR
    obtain ⟨s_VR, f_VR, z_VR⟩ := VR.open
    go_wp2_with (refine wpList_store_mid rfl 33 _ _ rfl (w.heap.size) 0 #[.int .i64 2, .string ⟨#[]⟩] rfl rfl HT.out (by kernel_rfl) (by kernel_rfl) ?_)
    refine bodyPost_ret (v := .agg #[.int .i64 2, .string ⟨#[]⟩]) (results_row Tryd.results15 _ _ (w.heap.size) [.int .i64 2, .string ⟨#[]⟩] _ rfl VF.out Tryd.underlying33 rfl (by kernel_rfl)) rfl ⟨rfl, BR.out⟩
  · rw [e1, e2]
    rw [h1] at CA
    obtain ⟨hv, hq0, hq1⟩ := ak_zero h1
    obtain ⟨m, rfl⟩ : ∃ m : Nat, q = (m : Int) := ⟨q.toNat, by omega⟩
    rw [Int.toNat_natCast] at *
    have hm1 : (m : Int) < (n : Int) := by omega
    have hmn : m < n := by omega
    have CT := Hid.mk (fun w h => l5Text_ok a n ca xs hv hn m w h hmn (by omega))
    have CS := Hid.mk (fun w h => l5Sizes_ok a n ca xs w h hn hv)
    have hzm := szL_at xs n m (by omega)
    have hzl := szL_len xs n
    obtain ⟨s, hs2⟩ : ∃ s, (den xs m).sz = s := ⟨_, rfl⟩
    rw [hs2] at hs hzm
    replace hzm := Hid.mk hzm
    replace hzl := Hid.mk hzl
    clear e1 e2 h1 hq0 hq1 hv hs2
    generalize txt xs m = TX at *
    go_enter Tryd.func15, Tryd.ntmps15
    have B := Below.refl w.heap.size w
    replace ha := ha.kept (belowA w (.cells #[.int .i64 0, .string ⟨#[]⟩] 33))
    replace B := thenB B (belowA w (.cells #[.int .i64 0, .string ⟨#[]⟩] 33))
    have VR := V.new w [.int .i64 0, .string ⟨#[]⟩] 33
    obtain ⟨s_VR, f_VR, z_VR⟩ := VR.open
    have Bo := B
    go_wp2_with fail
    refine (CA.out _ ha).mono ?_
    rintro e w41 ⟨rfl, b41⟩
    clear s_VR f_VR z_VR
    have S41 := b41.size
    simp only [World.size_alloc] at S41
    replace VR := VR.kept b41
    replace ha := ha.kept b41
    replace B := thenB B b41
    clear b41
    obtain ⟨s_VR, f_VR, z_VR⟩ := VR.open
    have Bo := B
    go_wp2_with fail
    refine (CS.out _ ha).mono ?_
    rintro e w42 ⟨c, d, rfl, O, b42⟩
    clear s_VR f_VR z_VR
    have S42 := b42.size
    replace VR := VR.kept b42
    replace ha := ha.kept b42
    replace B := thenB B b42
    clear b42
    obtain ⟨s_VR, f_VR, z_VR⟩ := VR.open
    have Bo := B
    rcases O.rd with h0 | ⟨b1, o1, rfl, hca2⟩
    · have := hzl.out; rw [h0] at this; simp at this; omega
    have p0 := hca2 m (by have := hzl.out; omega)
    rw [hzm.out] at p0
    clear hca2
    go_wp2_with fail
    refine (CT.out _ ha).mono ?_
    rintro e w43 ⟨rfl, b43⟩
    clear s_VR f_VR z_VR
    have S43 := b43.size
    replace VR := VR.kept b43
    replace ha := ha.kept b43
    replace O := O.kept b43
    replace B := thenB B b43
    clear b43
    obtain ⟨s_VR, f_VR, z_VR⟩ := VR.open
    have Bo := B
    clear s_VR f_VR z_VR
    have VF := Hid.mk (VR.filled [.int .i64 0, .string TX] rfl)
    have HT := Hid.mk VR.there
    have BR := belowCells B (show w.heap.size ≤ w.heap.size by (first | omega | (simp; done) | (simp; omega))) 0 [.int .i64 0, .string TX]
    replace BR := Hid.mk BR
    obtain ⟨s_VR, f_VR, z_VR⟩ := VR.open
    go_wp2_with (refine wpList_store_mid rfl 33 _ _ rfl (w.heap.size) 0 #[.int .i64 0, .string TX] rfl rfl HT.out (by kernel_rfl) (by kernel_rfl) ?_)
    refine bodyPost_ret (v := .agg #[.int .i64 0, .string TX]) (results_row Tryd.results15 _ _ (w.heap.size) [.int .i64 0, .string TX] _ rfl VF.out Tryd.underlying33 rfl (by kernel_rfl)) rfl ⟨rfl, BR.out⟩

set_option maxRecDepth 20000 in
set_option maxHeartbeats 4000000 in
theorem implTermText_ok (a : Option Addr) (n ca : Nat) (xs : List T4) (q : Int) (w : World) (ha : RdTerm w a xs) (hn : xs.length = n) (hx : n ≤ maxLen) (hca : n ≤ ca) (hok : ∀ t ∈ xs, okT t) (htab : Lib.TabIs Tryd.prog w (Rows.fnExactTermTextRow.laid.getD 2 ("", .nil)).1 .u64 Lib.pow10Tab) :
    Calls Tryd.prog 11 #[.slice a n ca, .int .i64 q] w fun e w' => e = .returned (.agg #[.int .i64 (ttC xs q), .string (ttT xs q)]) ∧ Below w.heap.size w w' := by
  have q1 := build_tr0
  have q2 := build_tr1
  have CA := Hid.mk (fun w h => implSizeOf_ok a n ca xs q w h hn hx hca hok)
  have hT := Hid.mk (Lib.tabBelow_of_tabIs htab)
  clear htab
  rcases tt_ways xs q with ⟨h1, e1, e2⟩ | ⟨h1, hs, e1, e2⟩ | ⟨h1, hs, e1, e2⟩
  · rw [e1, e2]
    have h2 : (akC xs q != 0) = true := by simp [h1]
    clear e1 e2 h1
    have hsv : szV xs q = 0 := by rcases szV_ways xs q with ⟨_, h⟩ | ⟨h, _⟩ <;> first | exact h | (rw [h] at h2; simp at h2)
    rw [hsv] at CA
    clear hsv
    generalize akC xs q = kk at *
    go_enter Tryd.func11, Tryd.ntmps11
    have B := Below.refl w.heap.size w
    replace ha := ha.kept (belowA w (.cells #[.int .i64 0, .string ⟨#[]⟩] 33))
    replace B := thenB B (belowA w (.cells #[.int .i64 0, .string ⟨#[]⟩] 33))
    have VR := V.new w [.int .i64 0, .string ⟨#[]⟩] 33
    obtain ⟨s_VR, f_VR, z_VR⟩ := VR.open
    have Bo := B
    go_wp2_with fail
    refine (CA.out _ ha).mono ?_
    rintro e w101 ⟨rfl, b101⟩
    clear s_VR f_VR z_VR
    have S101 := b101.size
    simp only [World.size_alloc] at S101
    replace VR := VR.kept b101
    replace ha := ha.kept b101
    replace B := thenB B b101
    clear b101
    obtain ⟨s_VR, f_VR, z_VR⟩ := VR.open
    have Bo := B
    replace VR := VR.kept (belowA w101 (.cells #[.int .i64 kk, .int .i64 0] 36))
    replace ha := ha.kept (belowA w101 (.cells #[.int .i64 kk, .int .i64 0] 36))
    replace B := thenB B (belowA w101 (.cells #[.int .i64 kk, .int .i64 0] 36))
    have VS := V.new w101 [.int .i64 kk, .int .i64 0] 36
    clear s_VR f_VR z_VR
    obtain ⟨s_VR, f_VR, z_VR⟩ := VR.open
    obtain ⟨s_VS, f_VS, z_VS⟩ := VS.open
    have Bo := B
    clear s_VR f_VR z_VR s_VS f_VS z_VS
    have VF := Hid.mk (VR.filled [.int .i64 kk, .string ⟨#[]⟩] rfl)
    have HT := Hid.mk VR.there
    have BR := belowCells B (show w.heap.size ≤ w.heap.size by (first | omega | (simp; done) | (simp; omega))) 0 [.int .i64 kk, .string ⟨#[]⟩]
    replace BR := Hid.mk BR
    obtain ⟨s_VR, f_VR, z_VR⟩ := VR.open
    obtain ⟨s_VS, f_VS, z_VS⟩ := VS.open
    go_wp2_with (refine wpList_store_mid rfl 33 _ _ rfl (w.heap.size) 0 #[.int .i64 kk, .string ⟨#[]⟩] rfl rfl HT.out (by kernel_rfl) (by kernel_rfl) ?_)
    refine bodyPost_ret (v := .agg #[.int .i64 kk, .string ⟨#[]⟩]) (results_row Tryd.results11 _ _ (w.heap.size) [.int .i64 kk, .string ⟨#[]⟩] _ rfl VF.out Tryd.underlying33 rfl (by kernel_rfl)) rfl ⟨rfl, BR.out⟩
  · rw [e1, e2]
    rw [h1] at CA
    obtain ⟨hv, hq0, hq1⟩ := ak_zero h1
    obtain ⟨m, rfl⟩ : ∃ m : Nat, q = (m : Int) := ⟨q.toNat, by omega⟩
    rw [Int.toNat_natCast] at *
    have hm1 : (m : Int) < (n : Int) := by omega
    have hmn : m < n := by omega
    have hsv : szV xs (m : Int) = (den xs m).sz := by rcases szV_ways xs (m : Int) with ⟨h, _⟩ | ⟨_, h⟩ <;> first | exact absurd h1 h | rw [h, Int.toNat_natCast]
    rw [hsv] at CA
    clear hsv
    obtain ⟨s, hs2⟩ : ∃ s, (den xs m).sz = s := ⟨_, rfl⟩
    rw [hs2] at hs CA
    clear e1 e2 h1 hq0 hq1 hv hs2
    go_enter Tryd.func11, Tryd.ntmps11
    have B := Below.refl w.heap.size w
    replace ha := ha.kept (belowA w (.cells #[.int .i64 0, .string ⟨#[]⟩] 33))
    replace B := thenB B (belowA w (.cells #[.int .i64 0, .string ⟨#[]⟩] 33))
    have VR := V.new w [.int .i64 0, .string ⟨#[]⟩] 33
    obtain ⟨s_VR, f_VR, z_VR⟩ := VR.open
    have Bo := B
    go_wp2_with fail
    refine (CA.out _ ha).mono ?_
    rintro e w121 ⟨rfl, b121⟩
    clear s_VR f_VR z_VR
    have S121 := b121.size
    simp only [World.size_alloc] at S121
    replace VR := VR.kept b121
    replace ha := ha.kept b121
    replace B := thenB B b121
    clear b121
    obtain ⟨s_VR, f_VR, z_VR⟩ := VR.open
    have Bo := B
    replace VR := VR.kept (belowA w121 (.cells #[.int .i64 0, .int .i64 s] 36))
    replace ha := ha.kept (belowA w121 (.cells #[.int .i64 0, .int .i64 s] 36))
    replace B := thenB B (belowA w121 (.cells #[.int .i64 0, .int .i64 s] 36))
    have VS := V.new w121 [.int .i64 0, .int .i64 s] 36
    clear s_VR f_VR z_VR
    obtain ⟨s_VR, f_VR, z_VR⟩ := VR.open
    obtain ⟨s_VS, f_VS, z_VS⟩ := VS.open
    have Bo := B
    clear s_VR f_VR z_VR s_VS f_VS z_VS
    have VF := Hid.mk (VR.filled [.int .i64 2, .string ⟨#[]⟩] rfl)
    have HT := Hid.mk VR.there
    have BR := belowCells B (show w.heap.size ≤ w.heap.size by (first | omega | (simp; done) | (simp; omega))) 0 [.int .i64 2, .string ⟨#[]⟩]
    replace BR := Hid.mk BR
    obtain ⟨s_VR, f_VR, z_VR⟩ := VR.open
    obtain ⟨s_VS, f_VS, z_VS⟩ := VS.open
    go_wp2_with (refine wpList_store_mid rfl 33 _ _ rfl (w.heap.size) 0 #[.int .i64 2, .string ⟨#[]⟩] rfl rfl HT.out (by kernel_rfl) (by kernel_rfl) ?_)
    refine bodyPost_ret (v := .agg #[.int .i64 2, .string ⟨#[]⟩]) (results_row Tryd.results11 _ _ (w.heap.size) [.int .i64 2, .string ⟨#[]⟩] _ rfl VF.out Tryd.underlying33 rfl (by kernel_rfl)) rfl ⟨rfl, BR.out⟩
  · rw [e1, e2]
    rw [h1] at CA
    obtain ⟨hv, hq0, hq1⟩ := ak_zero h1
    obtain ⟨m, rfl⟩ : ∃ m : Nat, q = (m : Int) := ⟨q.toNat, by omega⟩
    rw [Int.toNat_natCast] at *
    have hm1 : (m : Int) < (n : Int) := by omega
    have hmn : m < n := by omega
    have CT := Hid.mk (fun w h t => termWords_ok a n ca xs hv hn m w h t hmn (by omega))
    have hsv : szV xs (m : Int) = (den xs m).sz := by rcases szV_ways xs (m : Int) with ⟨h, _⟩ | ⟨_, h⟩ <;> first | exact absurd h1 h | rw [h, Int.toNat_natCast]
    rw [hsv] at CA
    clear hsv
    obtain ⟨s, hs2⟩ : ∃ s, (den xs m).sz = s := ⟨_, rfl⟩
    rw [hs2] at hs CA
    clear e1 e2 h1 hq0 hq1 hv hs2
    generalize txt xs m = TX at *
    go_enter Tryd.func11, Tryd.ntmps11
    have B := Below.refl w.heap.size w
    replace ha := ha.kept (belowA w (.cells #[.int .i64 0, .string ⟨#[]⟩] 33))
    replace B := thenB B (belowA w (.cells #[.int .i64 0, .string ⟨#[]⟩] 33))
    have VR := V.new w [.int .i64 0, .string ⟨#[]⟩] 33
    obtain ⟨s_VR, f_VR, z_VR⟩ := VR.open
    have Bo := B
    go_wp2_with fail
    refine (CA.out _ ha).mono ?_
    rintro e w141 ⟨rfl, b141⟩
    clear s_VR f_VR z_VR
    have S141 := b141.size
    simp only [World.size_alloc] at S141
    replace VR := VR.kept b141
    replace ha := ha.kept b141
    replace B := thenB B b141
    clear b141
    obtain ⟨s_VR, f_VR, z_VR⟩ := VR.open
    have Bo := B
    replace VR := VR.kept (belowA w141 (.cells #[.int .i64 0, .int .i64 s] 36))
    replace ha := ha.kept (belowA w141 (.cells #[.int .i64 0, .int .i64 s] 36))
    replace B := thenB B (belowA w141 (.cells #[.int .i64 0, .int .i64 s] 36))
    have VS := V.new w141 [.int .i64 0, .int .i64 s] 36
    clear s_VR f_VR z_VR
    obtain ⟨s_VR, f_VR, z_VR⟩ := VR.open
    obtain ⟨s_VS, f_VS, z_VS⟩ := VS.open
    have Bo := B
    go_wp2_with fail
    refine (CT.out _ ha (hT.out _ B)).mono ?_
    rintro e w142 ⟨rfl, b142⟩
    clear s_VR f_VR z_VR s_VS f_VS z_VS
    have S142 := b142.size
    simp only [World.size_alloc] at S142
    replace VR := VR.kept b142
    replace VS := VS.kept b142
    replace ha := ha.kept b142
    replace B := thenB B b142
    clear b142
    obtain ⟨s_VR, f_VR, z_VR⟩ := VR.open
    obtain ⟨s_VS, f_VS, z_VS⟩ := VS.open
    have Bo := B
    clear s_VR f_VR z_VR s_VS f_VS z_VS
    have VF := Hid.mk (VR.filled [.int .i64 0, .string TX] rfl)
    have HT := Hid.mk VR.there
    have BR := belowCells B (show w.heap.size ≤ w.heap.size by (first | omega | (simp; done) | (simp; omega))) 0 [.int .i64 0, .string TX]
    replace BR := Hid.mk BR
    obtain ⟨s_VR, f_VR, z_VR⟩ := VR.open
    obtain ⟨s_VS, f_VS, z_VS⟩ := VS.open
    go_wp2_with (refine wpList_store_mid rfl 33 _ _ rfl (w.heap.size) 0 #[.int .i64 0, .string TX] rfl rfl HT.out (by kernel_rfl) (by kernel_rfl) ?_)
    refine bodyPost_ret (v := .agg #[.int .i64 0, .string TX]) (results_row Tryd.results11 _ _ (w.heap.size) [.int .i64 0, .string TX] _ rfl VF.out Tryd.underlying33 rfl (by kernel_rfl)) rfl ⟨rfl, BR.out⟩

end Go.Proofs.YthjaehcfakjemaaDoor
