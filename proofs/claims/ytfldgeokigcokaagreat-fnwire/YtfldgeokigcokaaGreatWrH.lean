/- Reading a term's bytes: the model, leaves. -/
import Derived.Test.YtfldgeokigcokaaGreatWrG
import Derived.Test.YtfldgeokigcokaaGreatWrE
import Derived.Test.YtfldgeokigcokaaGreatTmS
namespace Go.Proofs.YtfldgeokigcokaaGreat
open Go.RowKit

theorem results_row_n {fn : Func} {t s : Tmp} {ty : TypeId} (h : fn.results = #[.cell t ty, .tmp s]) (tmps : Array Value) (w : World) (B : Nat) (vs : List Value) (d : TypeDesc) (v : Value) (ht : tmps.getD t undef = .pointer (some ⟨B, 0, none⟩)) (hv : V w B vs)
    (hu : Tryz.prog.underlying ty = some d) (hd : d.isRow = true) (hi : (Tryz.prog.info? ty).map (·.size) = some vs.length) (hs : tmps.getD s undef = v) : (results fn tmps).run Tryz.prog w = .ok (.tuple #[.agg vs.toArray, v]) w := by
  have hl := run_loadVar_mid (P := Tryz.prog) w B 0 ty vs d (fun j v hj => by rw [Nat.zero_add, hv.2.1 j (List.getElem?_eq_some_iff.1 hj).1]; exact hj) hu hd hi
  have ht2 : tmps[t]?.getD undef = Value.pointer (some ⟨B, 0, none⟩) := by simpa using ht
  have hs2 : tmps[s]?.getD undef = v := by simpa using hs
  simp [results, h, ht2, hs2, asAddr, hl]

theorem build_tm1 (o : Int) (w : World) : (Instr.build 70 #[(0, .int .i64 o)]).run Tryz.prog w = .ok (.agg #[.int .i64 o, .int .i64 0, .int .i64 0, .int .i64 0]) w := run_build w 70 _ _ (by kernel_rfl)

theorem build_tr_ (w : World) : (Instr.build 28 #[]).run Tryz.prog w = .ok (.agg #[.int .i64 0, .int .i64 0, .slice none 0 0]) w := run_build w 28 _ _ (by kernel_rfl)

/-- What a reading answers. -/
def Reads (w : World) (D : Go.Proofs.YtfldgeokigcokaaGreat.Put × Int) : Ending → World → Prop := fun e w' => ∃ c d, e = .returned (.tuple #[.agg #[.int .i64 D.1.c, .int .i64 D.1.k, .slice c D.1.l.length d], .int .i64 D.2]) ∧ OwnTerm w' w.heap.size c d D.1.l ∧ Below w.heap.size w w'

set_option maxRecDepth 20000 in
set_option maxHeartbeats 16000000 in
theorem l7Decode_low (b : Option Addr) (m cb : Nat) (k : Nat) (a : Option Addr) (n ca : Nat) (w : World) (dp : Int) (hdp : -1000 ≤ dp ∧ dp ≤ 31) (hk : m ≤ k ∨ dp = 31) :
    Calls Tryz.prog 24 #[.slice a n ca, .slice b m cb, .int .i64 (k : Int), .int .i64 dp] w (Reads w (⟨0, 0, []⟩, -1)) := by
  have q1 := build_tr_
  unfold Reads
  by_cases h1 : m ≤ k
  · have hkm : (m : Int) ≤ (k : Int) := by omega
    have CI := Hid.mk (l1In_ok 1 1 7)
    have CK := CI
    go_enter Tryz.func24, Tryz.ntmps24
    have B := Below.refl w.heap.size w
    replace B := thenB B (belowA w (.cells #[.int .i64 0, .int .i64 0, .slice none 0 0] 28))
    have VR := V.new w [.int .i64 0, .int .i64 0, .slice none 0 0] 28
    obtain ⟨s_VR, f_VR, z_VR⟩ := VR.open
    have Bo := B
    clear s_VR f_VR z_VR
    have VF := Hid.mk (VR.filled [.int .i64 0, .int .i64 0, .slice none 0 0] rfl)
    have HT := Hid.mk VR.there
    have BR := belowCells B (show w.heap.size ≤ w.heap.size by (first | omega | (simp; done) | (simp; omega))) 0 [.int .i64 0, .int .i64 0, .slice none 0 0]
    replace BR := Hid.mk BR
    obtain ⟨s_VR, f_VR, z_VR⟩ := VR.open
    go_wp2_with (first | (go_at_call 50; refine (CI.out _).mono ?_; rintro e wq ⟨rfl, rfl⟩) | (go_at_call 51; refine (CK.out _).mono ?_; rintro e wq ⟨rfl, rfl⟩) | (refine wpList_store_mid rfl 28 _ _ rfl (w.heap.size) 0 #[.int .i64 0, .int .i64 0, .slice none 0 0] rfl rfl HT.out (by kernel_rfl) (by kernel_rfl) ?_))
    refine bodyPost_ret (v := .tuple #[.agg #[.int .i64 0, .int .i64 0, .slice none 0 0], .int .i64 (-1)]) (results_row_n Tryz.results24 _ _ (w.heap.size) [.int .i64 0, .int .i64 0, .slice none 0 0] _ _ rfl VF.out Tryz.underlying28 rfl (by kernel_rfl) rfl) rfl ⟨none, 0, rfl, OwnTerm.none, BR.out⟩
  · have hkm : (k : Int) < (m : Int) := by omega
    obtain rfl : dp = 31 := by omega
    have CI := Hid.mk (l1In_ok 1 1 7)
    have CK := CI
    go_enter Tryz.func24, Tryz.ntmps24
    have B := Below.refl w.heap.size w
    replace B := thenB B (belowA w (.cells #[.int .i64 0, .int .i64 0, .slice none 0 0] 28))
    have VR := V.new w [.int .i64 0, .int .i64 0, .slice none 0 0] 28
    obtain ⟨s_VR, f_VR, z_VR⟩ := VR.open
    have Bo := B
    clear s_VR f_VR z_VR
    have VF := Hid.mk (VR.filled [.int .i64 0, .int .i64 0, .slice none 0 0] rfl)
    have HT := Hid.mk VR.there
    have BR := belowCells B (show w.heap.size ≤ w.heap.size by (first | omega | (simp; done) | (simp; omega))) 0 [.int .i64 0, .int .i64 0, .slice none 0 0]
    replace BR := Hid.mk BR
    obtain ⟨s_VR, f_VR, z_VR⟩ := VR.open
    go_wp2_with (first | (go_at_call 50; refine (CI.out _).mono ?_; rintro e wq ⟨rfl, rfl⟩) | (go_at_call 51; refine (CK.out _).mono ?_; rintro e wq ⟨rfl, rfl⟩) | (refine wpList_store_mid rfl 28 _ _ rfl (w.heap.size) 0 #[.int .i64 0, .int .i64 0, .slice none 0 0] rfl rfl HT.out (by kernel_rfl) (by kernel_rfl) ?_))
    refine bodyPost_ret (v := .tuple #[.agg #[.int .i64 0, .int .i64 0, .slice none 0 0], .int .i64 (-1)]) (results_row_n Tryz.results24 _ _ (w.heap.size) [.int .i64 0, .int .i64 0, .slice none 0 0] _ _ rfl VF.out Tryz.underlying28 rfl (by kernel_rfl) rfl) rfl ⟨none, 0, rfl, OwnTerm.none, BR.out⟩

set_option maxRecDepth 20000 in
set_option maxHeartbeats 16000000 in
theorem l7Decode_noop (b2 o2 m cb : Nat) (ds : List Int) (hb : Bytes ds) (hm : ds.length = m) (hm4 : m ≤ 400) (k : Nat) (a : Option Addr) (n ca : Nat) (xs : List T4) (w : World) (ha : RdTerm w a xs) (hn : xs.length = n) (hx : n ≤ 1000) (hca : a = none → ca = 0) (hr : Rd .u8 w (some ⟨b2, o2, none⟩) ds) (dp : Int) (hdp : -1000 ≤ dp ∧ dp ≤ 30) (hk : k < m) (o : Int) (ho : ds.getD k 0 = o) (hob : btw o 1 7 = false) :
    Calls Tryz.prog 24 #[.slice a n ca, .slice (some ⟨b2, o2, none⟩) m cb, .int .i64 (k : Int), .int .i64 dp] w (Reads w (⟨0, 0, []⟩, -1)) := by
  have q1 := build_tr_
  have q2 := build_tm1
  obtain ⟨hd0, hd1⟩ := hdp
  unfold Reads
  have hkm : (k : Int) < (m : Int) := by omega
  have g1 : decide (m ≤ k) = false := by simp; omega
  have g2 : decide (30 < dp) = false := by simp; omega
  have HA := Hid.mk ha
  have HR := Hid.mk hr
  have _u := And.intro hb (And.intro hm4 (And.intro hx (And.intro hn hca)))
  have rk : (w.alloc (.cells #[.int .i64 0, .int .i64 0, .slice none 0 0] 28)).cell? ⟨b2, o2 + k, none⟩ = some (.int .u8 o) := by
    rcases hr.kept (belowA w (.cells #[.int .i64 0, .int .i64 0, .slice none 0 0] 28)) with h0 | ⟨b3, o3, e3, h3⟩
    · rw [h0] at hm; simp at hm; omega
    · simp only [Option.some.injEq, Addr.mk.injEq, and_true] at e3
      obtain ⟨rfl, rfl⟩ := e3
      rw [h3 k (by omega), ho]
  have hbo : 0 ≤ o ∧ o < 256 := by
    rw [← ho]; exact hb _ (by simp [List.getD, show k < ds.length by omega])
  obtain ⟨hb0, hb1⟩ := hbo
  have CI := l1In_ok o 1 7
  rw [hob] at CI
  replace CI := Hid.mk CI
  have CK := CI
  go_enter Tryz.func24, Tryz.ntmps24
  have B := Below.refl w.heap.size w
  replace B := thenB B (belowA w (.cells #[.int .i64 0, .int .i64 0, .slice none 0 0] 28))
  have VR := V.new w [.int .i64 0, .int .i64 0, .slice none 0 0] 28
  obtain ⟨s_VR, f_VR, z_VR⟩ := VR.open
  have Bo := B
  clear s_VR f_VR z_VR
  have VF := Hid.mk (VR.filled [.int .i64 0, .int .i64 0, .slice none 0 0] rfl)
  have HT := Hid.mk VR.there
  have BR := belowCells B (show w.heap.size ≤ w.heap.size by (first | omega | (simp; done) | (simp; omega))) 0 [.int .i64 0, .int .i64 0, .slice none 0 0]
  replace BR := Hid.mk BR
  obtain ⟨s_VR, f_VR, z_VR⟩ := VR.open
  go_wp2_with (first | (go_at_call 50; refine (CI.out _).mono ?_; rintro e wq ⟨rfl, rfl⟩) | (go_at_call 51; refine (CK.out _).mono ?_; rintro e wq ⟨rfl, rfl⟩) | (refine wpList_store_mid rfl 28 _ _ rfl (w.heap.size) 0 #[.int .i64 0, .int .i64 0, .slice none 0 0] rfl rfl HT.out (by kernel_rfl) (by kernel_rfl) ?_))
  refine bodyPost_ret (v := .tuple #[.agg #[.int .i64 0, .int .i64 0, .slice none 0 0], .int .i64 (-1)]) (results_row_n Tryz.results24 _ _ (w.heap.size) [.int .i64 0, .int .i64 0, .slice none 0 0] _ _ rfl VF.out Tryz.underlying28 rfl (by kernel_rfl) rfl) rfl ⟨none, 0, rfl, OwnTerm.none, BR.out⟩

set_option maxRecDepth 20000 in
set_option maxHeartbeats 16000000 in
theorem l7Decode_leaf1cut (b2 o2 m cb : Nat) (ds : List Int) (hb : Bytes ds) (hm : ds.length = m) (hm4 : m ≤ 400) (k : Nat) (a : Option Addr) (n ca : Nat) (xs : List T4) (w : World) (ha : RdTerm w a xs) (hn : xs.length = n) (hx : n ≤ 1000) (hca : a = none → ca = 0) (hr : Rd .u8 w (some ⟨b2, o2, none⟩) ds) (dp : Int) (hdp : -1000 ≤ dp ∧ dp ≤ 30) (hk : k < m) (ho : ds.getD k 0 = 1) (hc : m < k + 3) :
    Calls Tryz.prog 24 #[.slice a n ca, .slice (some ⟨b2, o2, none⟩) m cb, .int .i64 (k : Int), .int .i64 dp] w (Reads w (⟨0, 0, []⟩, -1)) := by
  have q1 := build_tr_
  have q2 := build_tm1
  obtain ⟨hd0, hd1⟩ := hdp
  unfold Reads
  have hkm : (k : Int) < (m : Int) := by omega
  have g1 : decide (m ≤ k) = false := by simp; omega
  have g2 : decide (30 < dp) = false := by simp; omega
  have HA := Hid.mk ha
  have HR := Hid.mk hr
  have _u := And.intro hb (And.intro hm4 (And.intro hx (And.intro hn hca)))
  have rk : (w.alloc (.cells #[.int .i64 0, .int .i64 0, .slice none 0 0] 28)).cell? ⟨b2, o2 + k, none⟩ = some (.int .u8 1) := by
    rcases hr.kept (belowA w (.cells #[.int .i64 0, .int .i64 0, .slice none 0 0] 28)) with h0 | ⟨b3, o3, e3, h3⟩
    · rw [h0] at hm; simp at hm; omega
    · simp only [Option.some.injEq, Addr.mk.injEq, and_true] at e3
      obtain ⟨rfl, rfl⟩ := e3
      rw [h3 k (by omega), ho]
  have hc1 : (m : Int) < (k : Int) + 3 := by omega
  have CI := l1In_ok 1 1 7
  rw [show btw 1 1 7 = true from btw_iff.2 (by omega)] at CI
  replace CI := Hid.mk CI
  have CK := l5Kids_ok 1
  rw [show kids 1 = 0 by unfold kids; simp] at CK
  replace CK := Hid.mk CK
  go_enter Tryz.func24, Tryz.ntmps24
  have B := Below.refl w.heap.size w
  replace B := thenB B (belowA w (.cells #[.int .i64 0, .int .i64 0, .slice none 0 0] 28))
  have VR := V.new w [.int .i64 0, .int .i64 0, .slice none 0 0] 28
  replace VR := VR.kept (belowA (w.alloc (.cells #[.int .i64 0, .int .i64 0, .slice none 0 0] 28)) (.cells #[.int .i64 1, .int .i64 0, .int .i64 0, .int .i64 0] 70))
  replace B := thenB B (belowA (w.alloc (.cells #[.int .i64 0, .int .i64 0, .slice none 0 0] 28)) (.cells #[.int .i64 1, .int .i64 0, .int .i64 0, .int .i64 0] 70))
  have VT : V ((w.alloc (.cells #[.int .i64 0, .int .i64 0, .slice none 0 0] 28)).alloc (.cells #[.int .i64 1, .int .i64 0, .int .i64 0, .int .i64 0] 70)) (w.heap.size + 1) [.int .i64 1, .int .i64 0, .int .i64 0, .int .i64 0] := V.newAt _ _ _ _ (by simp)
  obtain ⟨s_VR, f_VR, z_VR⟩ := VR.open
  obtain ⟨s_VT, f_VT, z_VT⟩ := VT.open
  have Bo := B
  clear s_VR f_VR z_VR s_VT f_VT z_VT
  have VF := Hid.mk (VR.filled [.int .i64 0, .int .i64 0, .slice none 0 0] rfl)
  have HT := Hid.mk VR.there
  have BR := belowCells B (show w.heap.size ≤ w.heap.size by (first | omega | (simp; done) | (simp; omega))) 0 [.int .i64 0, .int .i64 0, .slice none 0 0]
  replace BR := Hid.mk BR
  obtain ⟨s_VR, f_VR, z_VR⟩ := VR.open
  obtain ⟨s_VT, f_VT, z_VT⟩ := VT.open
  go_wp2_with (first | (go_at_call 50; refine (CI.out _).mono ?_; rintro e wq ⟨rfl, rfl⟩) | (go_at_call 51; refine (CK.out _).mono ?_; rintro e wq ⟨rfl, rfl⟩) | (refine wpList_store_mid rfl 28 _ _ rfl (w.heap.size) 0 #[.int .i64 0, .int .i64 0, .slice none 0 0] rfl rfl HT.out (by kernel_rfl) (by kernel_rfl) ?_))
  refine bodyPost_ret (v := .tuple #[.agg #[.int .i64 0, .int .i64 0, .slice none 0 0], .int .i64 (-1)]) (results_row_n Tryz.results24 _ _ (w.heap.size) [.int .i64 0, .int .i64 0, .slice none 0 0] _ _ rfl VF.out Tryz.underlying28 rfl (by kernel_rfl) rfl) rfl ⟨none, 0, rfl, OwnTerm.none, BR.out⟩

set_option maxRecDepth 20000 in
set_option maxHeartbeats 16000000 in
theorem l7Decode_leaf1big (b2 o2 m cb : Nat) (ds : List Int) (hb : Bytes ds) (hm : ds.length = m) (hm4 : m ≤ 400) (k : Nat) (a : Option Addr) (n ca : Nat) (xs : List T4) (w : World) (ha : RdTerm w a xs) (hn : xs.length = n) (hx : n ≤ 1000) (hca : a = none → ca = 0) (hr : Rd .u8 w (some ⟨b2, o2, none⟩) ds) (dp : Int) (hdp : -1000 ≤ dp ∧ dp ≤ 30) (hk : k < m) (ho : ds.getD k 0 = 1) (nn : Int) (hnn : takeN ds (k + 1) 2 = nn) (hc : k + 3 ≤ m) (hc9 : 9999 < nn) :
    Calls Tryz.prog 24 #[.slice a n ca, .slice (some ⟨b2, o2, none⟩) m cb, .int .i64 (k : Int), .int .i64 dp] w (Reads w (⟨0, 0, []⟩, -1)) := by
  have q1 := build_tr_
  have q2 := build_tm1
  obtain ⟨hd0, hd1⟩ := hdp
  unfold Reads
  have hkm : (k : Int) < (m : Int) := by omega
  have g1 : decide (m ≤ k) = false := by simp; omega
  have g2 : decide (30 < dp) = false := by simp; omega
  have HA := Hid.mk ha
  have HR := Hid.mk hr
  have _u := And.intro hb (And.intro hm4 (And.intro hx (And.intro hn hca)))
  have rk : (w.alloc (.cells #[.int .i64 0, .int .i64 0, .slice none 0 0] 28)).cell? ⟨b2, o2 + k, none⟩ = some (.int .u8 1) := by
    rcases hr.kept (belowA w (.cells #[.int .i64 0, .int .i64 0, .slice none 0 0] 28)) with h0 | ⟨b3, o3, e3, h3⟩
    · rw [h0] at hm; simp at hm; omega
    · simp only [Option.some.injEq, Addr.mk.injEq, and_true] at e3
      obtain ⟨rfl, rfl⟩ := e3
      rw [h3 k (by omega), ho]
  have hc1 : (k : Int) + 3 ≤ (m : Int) := by omega
  have CT := fun w h => l1Take_ok (some ⟨b2, o2, none⟩) m cb (k + 1) 2 ds w h hb hm (by unfold maxLen; omega) (by omega) (by omega)
  rw [hnn] at CT
  simp only [Int.natCast_add, Int.natCast_one] at CT
  replace CT := Hid.mk CT
  have CI := l1In_ok 1 1 7
  rw [show btw 1 1 7 = true from btw_iff.2 (by omega)] at CI
  replace CI := Hid.mk CI
  have CK := l5Kids_ok 1
  rw [show kids 1 = 0 by unfold kids; simp] at CK
  replace CK := Hid.mk CK
  go_enter Tryz.func24, Tryz.ntmps24
  have B := Below.refl w.heap.size w
  replace B := thenB B (belowA w (.cells #[.int .i64 0, .int .i64 0, .slice none 0 0] 28))
  have VR := V.new w [.int .i64 0, .int .i64 0, .slice none 0 0] 28
  replace VR := VR.kept (belowA (w.alloc (.cells #[.int .i64 0, .int .i64 0, .slice none 0 0] 28)) (.cells #[.int .i64 1, .int .i64 0, .int .i64 0, .int .i64 0] 70))
  replace B := thenB B (belowA (w.alloc (.cells #[.int .i64 0, .int .i64 0, .slice none 0 0] 28)) (.cells #[.int .i64 1, .int .i64 0, .int .i64 0, .int .i64 0] 70))
  have VT : V ((w.alloc (.cells #[.int .i64 0, .int .i64 0, .slice none 0 0] 28)).alloc (.cells #[.int .i64 1, .int .i64 0, .int .i64 0, .int .i64 0] 70)) (w.heap.size + 1) [.int .i64 1, .int .i64 0, .int .i64 0, .int .i64 0] := V.newAt _ _ _ _ (by simp)
  obtain ⟨s_VR, f_VR, z_VR⟩ := VR.open
  obtain ⟨s_VT, f_VT, z_VT⟩ := VT.open
  have Bo := B
  go_wp2_with (first | (go_at_call 50; refine (CI.out _).mono ?_; rintro e wq ⟨rfl, rfl⟩) | (go_at_call 51; refine (CK.out _).mono ?_; rintro e wq ⟨rfl, rfl⟩) | fail)
  refine (CT.out _ (HR.out.kept B)).mono ?_
  rintro e w11 ⟨rfl, b11⟩
  clear s_VR f_VR z_VR s_VT f_VT z_VT
  have S11 := b11.size
  simp only [World.size_alloc] at S11
  replace VR := VR.kept b11
  replace VT := VT.kept b11
  replace B := thenB B b11
  clear b11
  obtain ⟨s_VR, f_VR, z_VR⟩ := VR.open
  obtain ⟨s_VT, f_VT, z_VT⟩ := VT.open
  have Bo := B
  replace VR := VR.other (p := ⟨w.heap.size + 1, 3, none⟩) (by (try simp); (try omega)) (.int .i64 nn)
  replace VT := VT.set (i := 3) (by simp) (.int .i64 nn)
  simp only [List.set_cons_zero, List.set_cons_succ] at VT
  replace B := B.setCell (p := ⟨w.heap.size + 1, 3, none⟩) (by (try simp); (try omega)) (.int .i64 nn)
  go_upto_region 8 with fail
  clear s_VR f_VR z_VR s_VT f_VT z_VT
  obtain ⟨s_VR, f_VR, z_VR⟩ := VR.open
  obtain ⟨s_VT, f_VT, z_VT⟩ := VT.open
  have Bo := B
  clear s_VR f_VR z_VR s_VT f_VT z_VT
  have VF := Hid.mk (VR.filled [.int .i64 0, .int .i64 0, .slice none 0 0] rfl)
  have HT := Hid.mk VR.there
  have BR := belowCells B (show w.heap.size ≤ w.heap.size by (first | omega | (simp; done) | (simp; omega))) 0 [.int .i64 0, .int .i64 0, .slice none 0 0]
  replace BR := Hid.mk BR
  obtain ⟨s_VR, f_VR, z_VR⟩ := VR.open
  obtain ⟨s_VT, f_VT, z_VT⟩ := VT.open
  go_wp2_with (first | (go_at_call 50; refine (CI.out _).mono ?_; rintro e wq ⟨rfl, rfl⟩) | (go_at_call 51; refine (CK.out _).mono ?_; rintro e wq ⟨rfl, rfl⟩) | (refine wpList_store_mid rfl 28 _ _ rfl (w.heap.size) 0 #[.int .i64 0, .int .i64 0, .slice none 0 0] rfl rfl HT.out (by kernel_rfl) (by kernel_rfl) ?_))
  refine bodyPost_ret (v := .tuple #[.agg #[.int .i64 0, .int .i64 0, .slice none 0 0], .int .i64 (-1)]) (results_row_n Tryz.results24 _ _ (w.heap.size) [.int .i64 0, .int .i64 0, .slice none 0 0] _ _ rfl VF.out Tryz.underlying28 rfl (by kernel_rfl) rfl) rfl ⟨none, 0, rfl, OwnTerm.none, BR.out⟩

set_option maxRecDepth 20000 in
set_option maxHeartbeats 16000000 in
theorem l7Decode_leaf1put (b2 o2 m cb : Nat) (ds : List Int) (hb : Bytes ds) (hm : ds.length = m) (hm4 : m ≤ 400) (k : Nat) (a : Option Addr) (n ca : Nat) (xs : List T4) (w : World) (ha : RdTerm w a xs) (hn : xs.length = n) (hx : n ≤ 1000) (hca : a = none → ca = 0) (hr : Rd .u8 w (some ⟨b2, o2, none⟩) ds) (dp : Int) (hdp : -1000 ≤ dp ∧ dp ≤ 30) (hk : k < m) (ho : ds.getD k 0 = 1) (nn : Int) (hnn : takeN ds (k + 1) 2 = nn) (hc : k + 3 ≤ m) (hc0 : 0 ≤ nn) (hc9 : nn ≤ 9999) :
    Calls Tryz.prog 24 #[.slice a n ca, .slice (some ⟨b2, o2, none⟩) m cb, .int .i64 (k : Int), .int .i64 dp] w (Reads w (put xs ⟨1, 0, 0, nn⟩, (k : Int) + 3)) := by
  have q1 := build_tr_
  have q2 := build_tm1
  obtain ⟨hd0, hd1⟩ := hdp
  unfold Reads
  have hkm : (k : Int) < (m : Int) := by omega
  have g1 : decide (m ≤ k) = false := by simp; omega
  have g2 : decide (30 < dp) = false := by simp; omega
  have HA := Hid.mk ha
  have HR := Hid.mk hr
  have _u := And.intro hb (And.intro hm4 (And.intro hx (And.intro hn hca)))
  have rk : (w.alloc (.cells #[.int .i64 0, .int .i64 0, .slice none 0 0] 28)).cell? ⟨b2, o2 + k, none⟩ = some (.int .u8 1) := by
    rcases hr.kept (belowA w (.cells #[.int .i64 0, .int .i64 0, .slice none 0 0] 28)) with h0 | ⟨b3, o3, e3, h3⟩
    · rw [h0] at hm; simp at hm; omega
    · simp only [Option.some.injEq, Addr.mk.injEq, and_true] at e3
      obtain ⟨rfl, rfl⟩ := e3
      rw [h3 k (by omega), ho]
  have hc1 : (k : Int) + 3 ≤ (m : Int) := by omega
  have CT := fun w h => l1Take_ok (some ⟨b2, o2, none⟩) m cb (k + 1) 2 ds w h hb hm (by unfold maxLen; omega) (by omega) (by omega)
  rw [hnn] at CT
  simp only [Int.natCast_add, Int.natCast_one] at CT
  replace CT := Hid.mk CT
  have CP := fun w h => l5Put_ok a n ca xs ⟨1, 0, 0, nn⟩ w h hn (by omega) hca
  generalize put xs ⟨1, 0, 0, nn⟩ = P at *
  obtain ⟨pc, pk, pl⟩ := P
  simp only at CP ⊢
  obtain ⟨ll, hll⟩ : ∃ l, pl.length = l := ⟨_, rfl⟩
  rw [hll] at CP ⊢
  replace CP := Hid.mk CP
  have CI := l1In_ok 1 1 7
  rw [show btw 1 1 7 = true from btw_iff.2 (by omega)] at CI
  replace CI := Hid.mk CI
  have CK := l5Kids_ok 1
  rw [show kids 1 = 0 by unfold kids; simp] at CK
  replace CK := Hid.mk CK
  go_enter Tryz.func24, Tryz.ntmps24
  have B := Below.refl w.heap.size w
  replace B := thenB B (belowA w (.cells #[.int .i64 0, .int .i64 0, .slice none 0 0] 28))
  have VR := V.new w [.int .i64 0, .int .i64 0, .slice none 0 0] 28
  replace VR := VR.kept (belowA (w.alloc (.cells #[.int .i64 0, .int .i64 0, .slice none 0 0] 28)) (.cells #[.int .i64 1, .int .i64 0, .int .i64 0, .int .i64 0] 70))
  replace B := thenB B (belowA (w.alloc (.cells #[.int .i64 0, .int .i64 0, .slice none 0 0] 28)) (.cells #[.int .i64 1, .int .i64 0, .int .i64 0, .int .i64 0] 70))
  have VT : V ((w.alloc (.cells #[.int .i64 0, .int .i64 0, .slice none 0 0] 28)).alloc (.cells #[.int .i64 1, .int .i64 0, .int .i64 0, .int .i64 0] 70)) (w.heap.size + 1) [.int .i64 1, .int .i64 0, .int .i64 0, .int .i64 0] := V.newAt _ _ _ _ (by simp)
  obtain ⟨s_VR, f_VR, z_VR⟩ := VR.open
  obtain ⟨s_VT, f_VT, z_VT⟩ := VT.open
  have Bo := B
  go_wp2_with (first | (go_at_call 50; refine (CI.out _).mono ?_; rintro e wq ⟨rfl, rfl⟩) | (go_at_call 51; refine (CK.out _).mono ?_; rintro e wq ⟨rfl, rfl⟩) | fail)
  refine (CT.out _ (HR.out.kept B)).mono ?_
  rintro e w11 ⟨rfl, b11⟩
  clear s_VR f_VR z_VR s_VT f_VT z_VT
  have S11 := b11.size
  simp only [World.size_alloc] at S11
  replace VR := VR.kept b11
  replace VT := VT.kept b11
  replace B := thenB B b11
  clear b11
  obtain ⟨s_VR, f_VR, z_VR⟩ := VR.open
  obtain ⟨s_VT, f_VT, z_VT⟩ := VT.open
  have Bo := B
  replace VR := VR.other (p := ⟨w.heap.size + 1, 3, none⟩) (by (try simp); (try omega)) (.int .i64 nn)
  replace VT := VT.set (i := 3) (by simp) (.int .i64 nn)
  simp only [List.set_cons_zero, List.set_cons_succ] at VT
  replace B := B.setCell (p := ⟨w.heap.size + 1, 3, none⟩) (by (try simp); (try omega)) (.int .i64 nn)
  go_upto_region 8 with fail
  clear s_VR f_VR z_VR s_VT f_VT z_VT
  obtain ⟨s_VR, f_VR, z_VR⟩ := VR.open
  obtain ⟨s_VT, f_VT, z_VT⟩ := VT.open
  have Bo := B
  go_wp2_with (first | (go_at_call 50; refine (CI.out _).mono ?_; rintro e wq ⟨rfl, rfl⟩) | (go_at_call 51; refine (CK.out _).mono ?_; rintro e wq ⟨rfl, rfl⟩) | fail)
  refine (CP.out _ (HA.out.kept B)).mono ?_
  rintro e w12 ⟨c, d, rfl, O, b12⟩
  clear s_VR f_VR z_VR s_VT f_VT z_VT
  have S12 := b12.size
  simp only [World.size_setCell] at S12
  replace VR := VR.kept b12
  replace VT := VT.kept b12
  replace B := thenB B b12
  clear b12
  obtain ⟨s_VR, f_VR, z_VR⟩ := VR.open
  obtain ⟨s_VT, f_VT, z_VT⟩ := VT.open
  have Bo := B
  have OL := Hid.mk (fun b hb => (O.lt b hb).1)
  clear s_VR f_VR z_VR s_VT f_VT z_VT
  have VF := Hid.mk (VR.filled [.int .i64 pc, .int .i64 pk, .slice c ll d] rfl)
  have HT := Hid.mk VR.there
  have BR := belowCells B (show w.heap.size ≤ w.heap.size by (first | omega | (simp; done) | (simp; omega))) 0 [.int .i64 pc, .int .i64 pk, .slice c ll d]
  replace BR := Hid.mk BR
  have HO := Hid.mk ((O.mono (show w.heap.size ≤ _ by first | omega | (simp; done) | (simp; omega))).apart (B := w.heap.size) (by intro b hb; have := OL.out b hb; first | omega | (simp at this; omega)) 0 [.int .i64 pc, .int .i64 pk, .slice c ll d])
  obtain ⟨s_VR, f_VR, z_VR⟩ := VR.open
  obtain ⟨s_VT, f_VT, z_VT⟩ := VT.open
  go_wp2_with (first | (go_at_call 50; refine (CI.out _).mono ?_; rintro e wq ⟨rfl, rfl⟩) | (go_at_call 51; refine (CK.out _).mono ?_; rintro e wq ⟨rfl, rfl⟩) | (refine wpList_store_mid rfl 28 _ _ rfl (w.heap.size) 0 #[.int .i64 pc, .int .i64 pk, .slice c ll d] rfl rfl HT.out (by kernel_rfl) (by kernel_rfl) ?_))
  refine bodyPost_ret (v := .tuple #[.agg #[.int .i64 pc, .int .i64 pk, .slice c ll d], .int .i64 ((k : Int) + 3)]) (results_row_n Tryz.results24 _ _ (w.heap.size) [.int .i64 pc, .int .i64 pk, .slice c ll d] _ _ rfl VF.out Tryz.underlying28 rfl (by kernel_rfl) rfl) rfl ⟨c, d, rfl, HO.out, BR.out⟩

set_option maxRecDepth 20000 in
set_option maxHeartbeats 16000000 in
theorem l7Decode_leaf2cut (b2 o2 m cb : Nat) (ds : List Int) (hb : Bytes ds) (hm : ds.length = m) (hm4 : m ≤ 400) (k : Nat) (a : Option Addr) (n ca : Nat) (xs : List T4) (w : World) (ha : RdTerm w a xs) (hn : xs.length = n) (hx : n ≤ 1000) (hca : a = none → ca = 0) (hr : Rd .u8 w (some ⟨b2, o2, none⟩) ds) (dp : Int) (hdp : -1000 ≤ dp ∧ dp ≤ 30) (hk : k < m) (ho : ds.getD k 0 = 2) (hc : m < k + 3) :
    Calls Tryz.prog 24 #[.slice a n ca, .slice (some ⟨b2, o2, none⟩) m cb, .int .i64 (k : Int), .int .i64 dp] w (Reads w (⟨0, 0, []⟩, -1)) := by
  have q1 := build_tr_
  have q2 := build_tm1
  obtain ⟨hd0, hd1⟩ := hdp
  unfold Reads
  have hkm : (k : Int) < (m : Int) := by omega
  have g1 : decide (m ≤ k) = false := by simp; omega
  have g2 : decide (30 < dp) = false := by simp; omega
  have HA := Hid.mk ha
  have HR := Hid.mk hr
  have _u := And.intro hb (And.intro hm4 (And.intro hx (And.intro hn hca)))
  have rk : (w.alloc (.cells #[.int .i64 0, .int .i64 0, .slice none 0 0] 28)).cell? ⟨b2, o2 + k, none⟩ = some (.int .u8 2) := by
    rcases hr.kept (belowA w (.cells #[.int .i64 0, .int .i64 0, .slice none 0 0] 28)) with h0 | ⟨b3, o3, e3, h3⟩
    · rw [h0] at hm; simp at hm; omega
    · simp only [Option.some.injEq, Addr.mk.injEq, and_true] at e3
      obtain ⟨rfl, rfl⟩ := e3
      rw [h3 k (by omega), ho]
  have hc1 : (m : Int) < (k : Int) + 3 := by omega
  have CI := l1In_ok 2 1 7
  rw [show btw 2 1 7 = true from btw_iff.2 (by omega)] at CI
  replace CI := Hid.mk CI
  have CK := l5Kids_ok 2
  rw [show kids 2 = 0 by unfold kids; simp] at CK
  replace CK := Hid.mk CK
  go_enter Tryz.func24, Tryz.ntmps24
  have B := Below.refl w.heap.size w
  replace B := thenB B (belowA w (.cells #[.int .i64 0, .int .i64 0, .slice none 0 0] 28))
  have VR := V.new w [.int .i64 0, .int .i64 0, .slice none 0 0] 28
  replace VR := VR.kept (belowA (w.alloc (.cells #[.int .i64 0, .int .i64 0, .slice none 0 0] 28)) (.cells #[.int .i64 2, .int .i64 0, .int .i64 0, .int .i64 0] 70))
  replace B := thenB B (belowA (w.alloc (.cells #[.int .i64 0, .int .i64 0, .slice none 0 0] 28)) (.cells #[.int .i64 2, .int .i64 0, .int .i64 0, .int .i64 0] 70))
  have VT : V ((w.alloc (.cells #[.int .i64 0, .int .i64 0, .slice none 0 0] 28)).alloc (.cells #[.int .i64 2, .int .i64 0, .int .i64 0, .int .i64 0] 70)) (w.heap.size + 1) [.int .i64 2, .int .i64 0, .int .i64 0, .int .i64 0] := V.newAt _ _ _ _ (by simp)
  obtain ⟨s_VR, f_VR, z_VR⟩ := VR.open
  obtain ⟨s_VT, f_VT, z_VT⟩ := VT.open
  have Bo := B
  clear s_VR f_VR z_VR s_VT f_VT z_VT
  have VF := Hid.mk (VR.filled [.int .i64 0, .int .i64 0, .slice none 0 0] rfl)
  have HT := Hid.mk VR.there
  have BR := belowCells B (show w.heap.size ≤ w.heap.size by (first | omega | (simp; done) | (simp; omega))) 0 [.int .i64 0, .int .i64 0, .slice none 0 0]
  replace BR := Hid.mk BR
  obtain ⟨s_VR, f_VR, z_VR⟩ := VR.open
  obtain ⟨s_VT, f_VT, z_VT⟩ := VT.open
  go_wp2_with (first | (go_at_call 50; refine (CI.out _).mono ?_; rintro e wq ⟨rfl, rfl⟩) | (go_at_call 51; refine (CK.out _).mono ?_; rintro e wq ⟨rfl, rfl⟩) | (refine wpList_store_mid rfl 28 _ _ rfl (w.heap.size) 0 #[.int .i64 0, .int .i64 0, .slice none 0 0] rfl rfl HT.out (by kernel_rfl) (by kernel_rfl) ?_))
  refine bodyPost_ret (v := .tuple #[.agg #[.int .i64 0, .int .i64 0, .slice none 0 0], .int .i64 (-1)]) (results_row_n Tryz.results24 _ _ (w.heap.size) [.int .i64 0, .int .i64 0, .slice none 0 0] _ _ rfl VF.out Tryz.underlying28 rfl (by kernel_rfl) rfl) rfl ⟨none, 0, rfl, OwnTerm.none, BR.out⟩

set_option maxRecDepth 20000 in
set_option maxHeartbeats 16000000 in
theorem l7Decode_leaf2big (b2 o2 m cb : Nat) (ds : List Int) (hb : Bytes ds) (hm : ds.length = m) (hm4 : m ≤ 400) (k : Nat) (a : Option Addr) (n ca : Nat) (xs : List T4) (w : World) (ha : RdTerm w a xs) (hn : xs.length = n) (hx : n ≤ 1000) (hca : a = none → ca = 0) (hr : Rd .u8 w (some ⟨b2, o2, none⟩) ds) (dp : Int) (hdp : -1000 ≤ dp ∧ dp ≤ 30) (hk : k < m) (ho : ds.getD k 0 = 2) (nn : Int) (hnn : takeN ds (k + 1) 2 = nn) (hc : k + 3 ≤ m) (hc9 : 9999 < nn) :
    Calls Tryz.prog 24 #[.slice a n ca, .slice (some ⟨b2, o2, none⟩) m cb, .int .i64 (k : Int), .int .i64 dp] w (Reads w (⟨0, 0, []⟩, -1)) := by
  have q1 := build_tr_
  have q2 := build_tm1
  obtain ⟨hd0, hd1⟩ := hdp
  unfold Reads
  have hkm : (k : Int) < (m : Int) := by omega
  have g1 : decide (m ≤ k) = false := by simp; omega
  have g2 : decide (30 < dp) = false := by simp; omega
  have HA := Hid.mk ha
  have HR := Hid.mk hr
  have _u := And.intro hb (And.intro hm4 (And.intro hx (And.intro hn hca)))
  have rk : (w.alloc (.cells #[.int .i64 0, .int .i64 0, .slice none 0 0] 28)).cell? ⟨b2, o2 + k, none⟩ = some (.int .u8 2) := by
    rcases hr.kept (belowA w (.cells #[.int .i64 0, .int .i64 0, .slice none 0 0] 28)) with h0 | ⟨b3, o3, e3, h3⟩
    · rw [h0] at hm; simp at hm; omega
    · simp only [Option.some.injEq, Addr.mk.injEq, and_true] at e3
      obtain ⟨rfl, rfl⟩ := e3
      rw [h3 k (by omega), ho]
  have hc1 : (k : Int) + 3 ≤ (m : Int) := by omega
  have CT := fun w h => l1Take_ok (some ⟨b2, o2, none⟩) m cb (k + 1) 2 ds w h hb hm (by unfold maxLen; omega) (by omega) (by omega)
  rw [hnn] at CT
  simp only [Int.natCast_add, Int.natCast_one] at CT
  replace CT := Hid.mk CT
  have CI := l1In_ok 2 1 7
  rw [show btw 2 1 7 = true from btw_iff.2 (by omega)] at CI
  replace CI := Hid.mk CI
  have CK := l5Kids_ok 2
  rw [show kids 2 = 0 by unfold kids; simp] at CK
  replace CK := Hid.mk CK
  go_enter Tryz.func24, Tryz.ntmps24
  have B := Below.refl w.heap.size w
  replace B := thenB B (belowA w (.cells #[.int .i64 0, .int .i64 0, .slice none 0 0] 28))
  have VR := V.new w [.int .i64 0, .int .i64 0, .slice none 0 0] 28
  replace VR := VR.kept (belowA (w.alloc (.cells #[.int .i64 0, .int .i64 0, .slice none 0 0] 28)) (.cells #[.int .i64 2, .int .i64 0, .int .i64 0, .int .i64 0] 70))
  replace B := thenB B (belowA (w.alloc (.cells #[.int .i64 0, .int .i64 0, .slice none 0 0] 28)) (.cells #[.int .i64 2, .int .i64 0, .int .i64 0, .int .i64 0] 70))
  have VT : V ((w.alloc (.cells #[.int .i64 0, .int .i64 0, .slice none 0 0] 28)).alloc (.cells #[.int .i64 2, .int .i64 0, .int .i64 0, .int .i64 0] 70)) (w.heap.size + 1) [.int .i64 2, .int .i64 0, .int .i64 0, .int .i64 0] := V.newAt _ _ _ _ (by simp)
  obtain ⟨s_VR, f_VR, z_VR⟩ := VR.open
  obtain ⟨s_VT, f_VT, z_VT⟩ := VT.open
  have Bo := B
  go_wp2_with (first | (go_at_call 50; refine (CI.out _).mono ?_; rintro e wq ⟨rfl, rfl⟩) | (go_at_call 51; refine (CK.out _).mono ?_; rintro e wq ⟨rfl, rfl⟩) | fail)
  refine (CT.out _ (HR.out.kept B)).mono ?_
  rintro e w11 ⟨rfl, b11⟩
  clear s_VR f_VR z_VR s_VT f_VT z_VT
  have S11 := b11.size
  simp only [World.size_alloc] at S11
  replace VR := VR.kept b11
  replace VT := VT.kept b11
  replace B := thenB B b11
  clear b11
  obtain ⟨s_VR, f_VR, z_VR⟩ := VR.open
  obtain ⟨s_VT, f_VT, z_VT⟩ := VT.open
  have Bo := B
  replace VR := VR.other (p := ⟨w.heap.size + 1, 3, none⟩) (by (try simp); (try omega)) (.int .i64 nn)
  replace VT := VT.set (i := 3) (by simp) (.int .i64 nn)
  simp only [List.set_cons_zero, List.set_cons_succ] at VT
  replace B := B.setCell (p := ⟨w.heap.size + 1, 3, none⟩) (by (try simp); (try omega)) (.int .i64 nn)
  go_upto_region 8 with fail
  clear s_VR f_VR z_VR s_VT f_VT z_VT
  obtain ⟨s_VR, f_VR, z_VR⟩ := VR.open
  obtain ⟨s_VT, f_VT, z_VT⟩ := VT.open
  have Bo := B
  clear s_VR f_VR z_VR s_VT f_VT z_VT
  have VF := Hid.mk (VR.filled [.int .i64 0, .int .i64 0, .slice none 0 0] rfl)
  have HT := Hid.mk VR.there
  have BR := belowCells B (show w.heap.size ≤ w.heap.size by (first | omega | (simp; done) | (simp; omega))) 0 [.int .i64 0, .int .i64 0, .slice none 0 0]
  replace BR := Hid.mk BR
  obtain ⟨s_VR, f_VR, z_VR⟩ := VR.open
  obtain ⟨s_VT, f_VT, z_VT⟩ := VT.open
  go_wp2_with (first | (go_at_call 50; refine (CI.out _).mono ?_; rintro e wq ⟨rfl, rfl⟩) | (go_at_call 51; refine (CK.out _).mono ?_; rintro e wq ⟨rfl, rfl⟩) | (refine wpList_store_mid rfl 28 _ _ rfl (w.heap.size) 0 #[.int .i64 0, .int .i64 0, .slice none 0 0] rfl rfl HT.out (by kernel_rfl) (by kernel_rfl) ?_))
  refine bodyPost_ret (v := .tuple #[.agg #[.int .i64 0, .int .i64 0, .slice none 0 0], .int .i64 (-1)]) (results_row_n Tryz.results24 _ _ (w.heap.size) [.int .i64 0, .int .i64 0, .slice none 0 0] _ _ rfl VF.out Tryz.underlying28 rfl (by kernel_rfl) rfl) rfl ⟨none, 0, rfl, OwnTerm.none, BR.out⟩

set_option maxRecDepth 20000 in
set_option maxHeartbeats 16000000 in
theorem l7Decode_leaf2put (b2 o2 m cb : Nat) (ds : List Int) (hb : Bytes ds) (hm : ds.length = m) (hm4 : m ≤ 400) (k : Nat) (a : Option Addr) (n ca : Nat) (xs : List T4) (w : World) (ha : RdTerm w a xs) (hn : xs.length = n) (hx : n ≤ 1000) (hca : a = none → ca = 0) (hr : Rd .u8 w (some ⟨b2, o2, none⟩) ds) (dp : Int) (hdp : -1000 ≤ dp ∧ dp ≤ 30) (hk : k < m) (ho : ds.getD k 0 = 2) (nn : Int) (hnn : takeN ds (k + 1) 2 = nn) (hc : k + 3 ≤ m) (hc0 : 0 ≤ nn) (hc9 : nn ≤ 9999) :
    Calls Tryz.prog 24 #[.slice a n ca, .slice (some ⟨b2, o2, none⟩) m cb, .int .i64 (k : Int), .int .i64 dp] w (Reads w (put xs ⟨2, 0, 0, nn⟩, (k : Int) + 3)) := by
  have q1 := build_tr_
  have q2 := build_tm1
  obtain ⟨hd0, hd1⟩ := hdp
  unfold Reads
  have hkm : (k : Int) < (m : Int) := by omega
  have g1 : decide (m ≤ k) = false := by simp; omega
  have g2 : decide (30 < dp) = false := by simp; omega
  have HA := Hid.mk ha
  have HR := Hid.mk hr
  have _u := And.intro hb (And.intro hm4 (And.intro hx (And.intro hn hca)))
  have rk : (w.alloc (.cells #[.int .i64 0, .int .i64 0, .slice none 0 0] 28)).cell? ⟨b2, o2 + k, none⟩ = some (.int .u8 2) := by
    rcases hr.kept (belowA w (.cells #[.int .i64 0, .int .i64 0, .slice none 0 0] 28)) with h0 | ⟨b3, o3, e3, h3⟩
    · rw [h0] at hm; simp at hm; omega
    · simp only [Option.some.injEq, Addr.mk.injEq, and_true] at e3
      obtain ⟨rfl, rfl⟩ := e3
      rw [h3 k (by omega), ho]
  have hc1 : (k : Int) + 3 ≤ (m : Int) := by omega
  have CT := fun w h => l1Take_ok (some ⟨b2, o2, none⟩) m cb (k + 1) 2 ds w h hb hm (by unfold maxLen; omega) (by omega) (by omega)
  rw [hnn] at CT
  simp only [Int.natCast_add, Int.natCast_one] at CT
  replace CT := Hid.mk CT
  have CP := fun w h => l5Put_ok a n ca xs ⟨2, 0, 0, nn⟩ w h hn (by omega) hca
  generalize put xs ⟨2, 0, 0, nn⟩ = P at *
  obtain ⟨pc, pk, pl⟩ := P
  simp only at CP ⊢
  obtain ⟨ll, hll⟩ : ∃ l, pl.length = l := ⟨_, rfl⟩
  rw [hll] at CP ⊢
  replace CP := Hid.mk CP
  have CI := l1In_ok 2 1 7
  rw [show btw 2 1 7 = true from btw_iff.2 (by omega)] at CI
  replace CI := Hid.mk CI
  have CK := l5Kids_ok 2
  rw [show kids 2 = 0 by unfold kids; simp] at CK
  replace CK := Hid.mk CK
  go_enter Tryz.func24, Tryz.ntmps24
  have B := Below.refl w.heap.size w
  replace B := thenB B (belowA w (.cells #[.int .i64 0, .int .i64 0, .slice none 0 0] 28))
  have VR := V.new w [.int .i64 0, .int .i64 0, .slice none 0 0] 28
  replace VR := VR.kept (belowA (w.alloc (.cells #[.int .i64 0, .int .i64 0, .slice none 0 0] 28)) (.cells #[.int .i64 2, .int .i64 0, .int .i64 0, .int .i64 0] 70))
  replace B := thenB B (belowA (w.alloc (.cells #[.int .i64 0, .int .i64 0, .slice none 0 0] 28)) (.cells #[.int .i64 2, .int .i64 0, .int .i64 0, .int .i64 0] 70))
  have VT : V ((w.alloc (.cells #[.int .i64 0, .int .i64 0, .slice none 0 0] 28)).alloc (.cells #[.int .i64 2, .int .i64 0, .int .i64 0, .int .i64 0] 70)) (w.heap.size + 1) [.int .i64 2, .int .i64 0, .int .i64 0, .int .i64 0] := V.newAt _ _ _ _ (by simp)
  obtain ⟨s_VR, f_VR, z_VR⟩ := VR.open
  obtain ⟨s_VT, f_VT, z_VT⟩ := VT.open
  have Bo := B
  go_wp2_with (first | (go_at_call 50; refine (CI.out _).mono ?_; rintro e wq ⟨rfl, rfl⟩) | (go_at_call 51; refine (CK.out _).mono ?_; rintro e wq ⟨rfl, rfl⟩) | fail)
  refine (CT.out _ (HR.out.kept B)).mono ?_
  rintro e w11 ⟨rfl, b11⟩
  clear s_VR f_VR z_VR s_VT f_VT z_VT
  have S11 := b11.size
  simp only [World.size_alloc] at S11
  replace VR := VR.kept b11
  replace VT := VT.kept b11
  replace B := thenB B b11
  clear b11
  obtain ⟨s_VR, f_VR, z_VR⟩ := VR.open
  obtain ⟨s_VT, f_VT, z_VT⟩ := VT.open
  have Bo := B
  replace VR := VR.other (p := ⟨w.heap.size + 1, 3, none⟩) (by (try simp); (try omega)) (.int .i64 nn)
  replace VT := VT.set (i := 3) (by simp) (.int .i64 nn)
  simp only [List.set_cons_zero, List.set_cons_succ] at VT
  replace B := B.setCell (p := ⟨w.heap.size + 1, 3, none⟩) (by (try simp); (try omega)) (.int .i64 nn)
  go_upto_region 8 with fail
  clear s_VR f_VR z_VR s_VT f_VT z_VT
  obtain ⟨s_VR, f_VR, z_VR⟩ := VR.open
  obtain ⟨s_VT, f_VT, z_VT⟩ := VT.open
  have Bo := B
  go_wp2_with (first | (go_at_call 50; refine (CI.out _).mono ?_; rintro e wq ⟨rfl, rfl⟩) | (go_at_call 51; refine (CK.out _).mono ?_; rintro e wq ⟨rfl, rfl⟩) | fail)
  refine (CP.out _ (HA.out.kept B)).mono ?_
  rintro e w12 ⟨c, d, rfl, O, b12⟩
  clear s_VR f_VR z_VR s_VT f_VT z_VT
  have S12 := b12.size
  simp only [World.size_setCell] at S12
  replace VR := VR.kept b12
  replace VT := VT.kept b12
  replace B := thenB B b12
  clear b12
  obtain ⟨s_VR, f_VR, z_VR⟩ := VR.open
  obtain ⟨s_VT, f_VT, z_VT⟩ := VT.open
  have Bo := B
  have OL := Hid.mk (fun b hb => (O.lt b hb).1)
  clear s_VR f_VR z_VR s_VT f_VT z_VT
  have VF := Hid.mk (VR.filled [.int .i64 pc, .int .i64 pk, .slice c ll d] rfl)
  have HT := Hid.mk VR.there
  have BR := belowCells B (show w.heap.size ≤ w.heap.size by (first | omega | (simp; done) | (simp; omega))) 0 [.int .i64 pc, .int .i64 pk, .slice c ll d]
  replace BR := Hid.mk BR
  have HO := Hid.mk ((O.mono (show w.heap.size ≤ _ by first | omega | (simp; done) | (simp; omega))).apart (B := w.heap.size) (by intro b hb; have := OL.out b hb; first | omega | (simp at this; omega)) 0 [.int .i64 pc, .int .i64 pk, .slice c ll d])
  obtain ⟨s_VR, f_VR, z_VR⟩ := VR.open
  obtain ⟨s_VT, f_VT, z_VT⟩ := VT.open
  go_wp2_with (first | (go_at_call 50; refine (CI.out _).mono ?_; rintro e wq ⟨rfl, rfl⟩) | (go_at_call 51; refine (CK.out _).mono ?_; rintro e wq ⟨rfl, rfl⟩) | (refine wpList_store_mid rfl 28 _ _ rfl (w.heap.size) 0 #[.int .i64 pc, .int .i64 pk, .slice c ll d] rfl rfl HT.out (by kernel_rfl) (by kernel_rfl) ?_))
  refine bodyPost_ret (v := .tuple #[.agg #[.int .i64 pc, .int .i64 pk, .slice c ll d], .int .i64 ((k : Int) + 3)]) (results_row_n Tryz.results24 _ _ (w.heap.size) [.int .i64 pc, .int .i64 pk, .slice c ll d] _ _ rfl VF.out Tryz.underlying28 rfl (by kernel_rfl) rfl) rfl ⟨c, d, rfl, HO.out, BR.out⟩

end Go.Proofs.YtfldgeokigcokaaGreat
