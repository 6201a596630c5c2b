/- Put together: WrJ, WrK, WrL, WrM, WrN, WrU. -/
import Derived.Test.YtfldgeokigcokaaGreatFWs
import Derived.Test.YtfldgeokigcokaaGreatFWq
import Derived.Test.YtfldgeokigcokaaGreatFWu

/- Reading a term's bytes: the model, what stops at the first named term. -/
namespace Go.Proofs.YtfldgeokigcokaaGreat
open Go.RowKit

set_option maxRecDepth 20000 in
set_option maxHeartbeats 16000000 in
theorem l7Decode_stop_none (b2 o2 m cb : Nat) (ds : List Int) (hb : Bytes ds) (hm : ds.length = m) (hm4 : m ≤ 400) (k : Nat) (a : Option Addr) (n ca : Nat) (xs : List T4) (w : World) (ha : RdTerm w a xs) (hn : xs.length = n) (hx : n ≤ 1000) (hca : a = none → ca = 0) (hr : Rd .u8 w (some ⟨b2, o2, none⟩) ds) (dp : Int) (hdp : -1000 ≤ dp ∧ dp ≤ 30) (hk : k < m) (o : Int) (ho : ds.getD k 0 = o) (hob : btw o 1 7 = true) (kk : Int) (hkk : kids o = kk) (hkz : (kk == 0) = false) (A : Go.Proofs.YtfldgeokigcokaaGreat.Put × Int) (CA : ∀ w : World, RdTerm w a xs → Rd .u8 w (some ⟨b2, o2, none⟩) ds → Calls Tryz.prog 24 #[.slice a n ca, .slice (some ⟨b2, o2, none⟩) m cb, .int .i64 ((k : Int) + 1), .int .i64 (dp + 1)] w (Reads w A)) (hs : A.2 < 0) :
    Calls Tryz.prog 24 #[.slice a n ca, .slice (some ⟨b2, o2, none⟩) m cb, .int .i64 (k : Int), .int .i64 dp] w (Reads w A) := by
  have q1 := build_tr_
  have q2 := build_tm1
  obtain ⟨hd0, hd1⟩ := hdp
  unfold Reads
  have hkm : (k : Int) < (m : Int) := by omega
  have g1 : decide (m ≤ k) = false := by simp; omega
  have g2 : decide (30 < dp) = false := by simp; omega
  have HA := Hid.mk ha
  have HR := Hid.mk hr
  have _u := And.intro hb (And.intro hm4 (And.intro hx (And.intro hn hca)))
  have rk : (w.alloc (.cells #[.int .i64 0, .int .i64 0, .slice none 0 0] 28)).cell? ⟨b2, o2 + k, none⟩ = some (.int .u8 o) := by
    rcases hr.kept (belowA w (.cells #[.int .i64 0, .int .i64 0, .slice none 0 0] 28)) with h0 | ⟨b3, o3, e3, h3⟩
    · rw [h0] at hm; simp at hm; omega
    · simp only [Option.some.injEq, Addr.mk.injEq, and_true] at e3
      obtain ⟨rfl, rfl⟩ := e3
      rw [h3 k (by omega), ho]
  unfold Reads at CA
  obtain ⟨⟨ac, ak, al⟩, ae⟩ := A
  simp only at CA hs ⊢
  obtain ⟨ll, hll⟩ : ∃ l, al.length = l := ⟨_, rfl⟩
  rw [hll] at CA ⊢
  replace CA := Hid.mk CA
  have hb0 : 0 ≤ o := by have := btw_iff.1 hob; omega
  have hb1 : o < 256 := by have := btw_iff.1 hob; omega
  have CI := l1In_ok o 1 7
  rw [hob] at CI
  replace CI := Hid.mk CI
  have CK := l5Kids_ok o
  rw [hkk] at CK
  replace CK := Hid.mk CK
  clear hkk hob
  go_enter Tryz.func24, Tryz.ntmps24
  have B := Below.refl w.heap.size w
  replace B := thenB B (belowA w (.cells #[.int .i64 0, .int .i64 0, .slice none 0 0] 28))
  have VR := V.new w [.int .i64 0, .int .i64 0, .slice none 0 0] 28
  replace VR := VR.kept (belowA (w.alloc (.cells #[.int .i64 0, .int .i64 0, .slice none 0 0] 28)) (.cells #[.int .i64 o, .int .i64 0, .int .i64 0, .int .i64 0] 70))
  replace B := thenB B (belowA (w.alloc (.cells #[.int .i64 0, .int .i64 0, .slice none 0 0] 28)) (.cells #[.int .i64 o, .int .i64 0, .int .i64 0, .int .i64 0] 70))
  have VT : V ((w.alloc (.cells #[.int .i64 0, .int .i64 0, .slice none 0 0] 28)).alloc (.cells #[.int .i64 o, .int .i64 0, .int .i64 0, .int .i64 0] 70)) (w.heap.size + 1) [.int .i64 o, .int .i64 0, .int .i64 0, .int .i64 0] := V.newAt _ _ _ _ (by simp)
  obtain ⟨s_VR, f_VR, z_VR⟩ := VR.open
  obtain ⟨s_VT, f_VT, z_VT⟩ := VT.open
  have Bo := B
  go_wp2_with (first | (go_at_call 50; refine (CI.out _).mono ?_; rintro e wq ⟨rfl, rfl⟩) | (go_at_call 51; refine (CK.out _).mono ?_; rintro e wq ⟨rfl, rfl⟩) | fail)
  refine (CA.out _ (HA.out.kept B) (HR.out.kept B)).mono ?_
  rintro e w11 ⟨c, d, rfl, O, b11⟩
  clear s_VR f_VR z_VR s_VT f_VT z_VT
  have S11 := b11.size
  simp only [World.size_alloc] at S11
  replace VR := VR.kept b11
  replace VT := VT.kept b11
  replace B := thenB B b11
  clear b11
  obtain ⟨s_VR, f_VR, z_VR⟩ := VR.open
  obtain ⟨s_VT, f_VT, z_VT⟩ := VT.open
  have Bo := B
  replace VR := VR.kept (belowA w11 (.cells #[.int .i64 ac, .int .i64 ak, .slice c ll d] 28))
  replace VT := VT.kept (belowA w11 (.cells #[.int .i64 ac, .int .i64 ak, .slice c ll d] 28))
  replace O := O.kept (belowA w11 (.cells #[.int .i64 ac, .int .i64 ak, .slice c ll d] 28))
  replace B := thenB B (belowA w11 (.cells #[.int .i64 ac, .int .i64 ak, .slice c ll d] 28))
  have VA := V.new w11 [.int .i64 ac, .int .i64 ak, .slice c ll d] 28
  clear s_VR f_VR z_VR s_VT f_VT z_VT
  obtain ⟨s_VR, f_VR, z_VR⟩ := VR.open
  obtain ⟨s_VT, f_VT, z_VT⟩ := VT.open
  obtain ⟨s_VA, f_VA, z_VA⟩ := VA.open
  have Bo := B
  have OL := Hid.mk (fun b hb => (O.lt b hb).1)
  clear s_VR f_VR z_VR s_VT f_VT z_VT s_VA f_VA z_VA
  have VF := Hid.mk (VR.filled [.int .i64 ac, .int .i64 ak, .slice c ll d] rfl)
  have HT := Hid.mk VR.there
  have BR := belowCells B (show w.heap.size ≤ w.heap.size by (first | omega | (simp; done) | (simp; omega))) 0 [.int .i64 ac, .int .i64 ak, .slice c ll d]
  replace BR := Hid.mk BR
  have HO := Hid.mk ((O.mono (show w.heap.size ≤ _ by first | omega | (simp; done) | (simp; omega))).apart (B := w.heap.size) (by intro b hb; have := OL.out b hb; first | omega | (simp at this; omega)) 0 [.int .i64 ac, .int .i64 ak, .slice c ll d])
  obtain ⟨s_VR, f_VR, z_VR⟩ := VR.open
  obtain ⟨s_VT, f_VT, z_VT⟩ := VT.open
  obtain ⟨s_VA, f_VA, z_VA⟩ := VA.open
  go_wp2_with (first | (go_at_call 50; refine (CI.out _).mono ?_; rintro e wq ⟨rfl, rfl⟩) | (go_at_call 51; refine (CK.out _).mono ?_; rintro e wq ⟨rfl, rfl⟩) | (refine wpList_store_mid rfl 28 _ _ rfl (w.heap.size) 0 #[.int .i64 ac, .int .i64 ak, .slice c ll d] rfl rfl HT.out (by kernel_rfl) (by kernel_rfl) ?_))
  refine bodyPost_ret (v := .tuple #[.agg #[.int .i64 ac, .int .i64 ak, .slice c ll d], .int .i64 ae]) (results_row_n Tryz.results24 _ _ (w.heap.size) [.int .i64 ac, .int .i64 ak, .slice c ll d] _ _ rfl VF.out Tryz.underlying28 rfl (by kernel_rfl) rfl) rfl ⟨c, d, rfl, HO.out, BR.out⟩

set_option maxRecDepth 20000 in
set_option maxHeartbeats 16000000 in
theorem l7Decode_stop_full (b2 o2 m cb : Nat) (ds : List Int) (hb : Bytes ds) (hm : ds.length = m) (hm4 : m ≤ 400) (k : Nat) (a : Option Addr) (n ca : Nat) (xs : List T4) (w : World) (ha : RdTerm w a xs) (hn : xs.length = n) (hx : n ≤ 1000) (hca : a = none → ca = 0) (hr : Rd .u8 w (some ⟨b2, o2, none⟩) ds) (dp : Int) (hdp : -1000 ≤ dp ∧ dp ≤ 30) (hk : k < m) (o : Int) (ho : ds.getD k 0 = o) (hob : btw o 1 7 = true) (kk : Int) (hkk : kids o = kk) (hkz : (kk == 0) = false) (A : Go.Proofs.YtfldgeokigcokaaGreat.Put × Int) (CA : ∀ w : World, RdTerm w a xs → Rd .u8 w (some ⟨b2, o2, none⟩) ds → Calls Tryz.prog 24 #[.slice a n ca, .slice (some ⟨b2, o2, none⟩) m cb, .int .i64 ((k : Int) + 1), .int .i64 (dp + 1)] w (Reads w A)) (hs : 0 ≤ A.2 ∧ (A.1.c != 0) = true) :
    Calls Tryz.prog 24 #[.slice a n ca, .slice (some ⟨b2, o2, none⟩) m cb, .int .i64 (k : Int), .int .i64 dp] w (Reads w A) := by
  have q1 := build_tr_
  have q2 := build_tm1
  obtain ⟨hd0, hd1⟩ := hdp
  unfold Reads
  have hkm : (k : Int) < (m : Int) := by omega
  have g1 : decide (m ≤ k) = false := by simp; omega
  have g2 : decide (30 < dp) = false := by simp; omega
  have HA := Hid.mk ha
  have HR := Hid.mk hr
  have _u := And.intro hb (And.intro hm4 (And.intro hx (And.intro hn hca)))
  have rk : (w.alloc (.cells #[.int .i64 0, .int .i64 0, .slice none 0 0] 28)).cell? ⟨b2, o2 + k, none⟩ = some (.int .u8 o) := by
    rcases hr.kept (belowA w (.cells #[.int .i64 0, .int .i64 0, .slice none 0 0] 28)) with h0 | ⟨b3, o3, e3, h3⟩
    · rw [h0] at hm; simp at hm; omega
    · simp only [Option.some.injEq, Addr.mk.injEq, and_true] at e3
      obtain ⟨rfl, rfl⟩ := e3
      rw [h3 k (by omega), ho]
  unfold Reads at CA
  obtain ⟨⟨ac, ak, al⟩, ae⟩ := A
  simp only at CA hs ⊢
  obtain ⟨ll, hll⟩ : ∃ l, al.length = l := ⟨_, rfl⟩
  rw [hll] at CA ⊢
  replace CA := Hid.mk CA
  obtain ⟨hs0, hs1⟩ := hs
  have hb0 : 0 ≤ o := by have := btw_iff.1 hob; omega
  have hb1 : o < 256 := by have := btw_iff.1 hob; omega
  have CI := l1In_ok o 1 7
  rw [hob] at CI
  replace CI := Hid.mk CI
  have CK := l5Kids_ok o
  rw [hkk] at CK
  replace CK := Hid.mk CK
  clear hkk hob
  go_enter Tryz.func24, Tryz.ntmps24
  have B := Below.refl w.heap.size w
  replace B := thenB B (belowA w (.cells #[.int .i64 0, .int .i64 0, .slice none 0 0] 28))
  have VR := V.new w [.int .i64 0, .int .i64 0, .slice none 0 0] 28
  replace VR := VR.kept (belowA (w.alloc (.cells #[.int .i64 0, .int .i64 0, .slice none 0 0] 28)) (.cells #[.int .i64 o, .int .i64 0, .int .i64 0, .int .i64 0] 70))
  replace B := thenB B (belowA (w.alloc (.cells #[.int .i64 0, .int .i64 0, .slice none 0 0] 28)) (.cells #[.int .i64 o, .int .i64 0, .int .i64 0, .int .i64 0] 70))
  have VT : V ((w.alloc (.cells #[.int .i64 0, .int .i64 0, .slice none 0 0] 28)).alloc (.cells #[.int .i64 o, .int .i64 0, .int .i64 0, .int .i64 0] 70)) (w.heap.size + 1) [.int .i64 o, .int .i64 0, .int .i64 0, .int .i64 0] := V.newAt _ _ _ _ (by simp)
  obtain ⟨s_VR, f_VR, z_VR⟩ := VR.open
  obtain ⟨s_VT, f_VT, z_VT⟩ := VT.open
  have Bo := B
  go_wp2_with (first | (go_at_call 50; refine (CI.out _).mono ?_; rintro e wq ⟨rfl, rfl⟩) | (go_at_call 51; refine (CK.out _).mono ?_; rintro e wq ⟨rfl, rfl⟩) | fail)
  refine (CA.out _ (HA.out.kept B) (HR.out.kept B)).mono ?_
  rintro e w11 ⟨c, d, rfl, O, b11⟩
  clear s_VR f_VR z_VR s_VT f_VT z_VT
  have S11 := b11.size
  simp only [World.size_alloc] at S11
  replace VR := VR.kept b11
  replace VT := VT.kept b11
  replace B := thenB B b11
  clear b11
  obtain ⟨s_VR, f_VR, z_VR⟩ := VR.open
  obtain ⟨s_VT, f_VT, z_VT⟩ := VT.open
  have Bo := B
  replace VR := VR.kept (belowA w11 (.cells #[.int .i64 ac, .int .i64 ak, .slice c ll d] 28))
  replace VT := VT.kept (belowA w11 (.cells #[.int .i64 ac, .int .i64 ak, .slice c ll d] 28))
  replace O := O.kept (belowA w11 (.cells #[.int .i64 ac, .int .i64 ak, .slice c ll d] 28))
  replace B := thenB B (belowA w11 (.cells #[.int .i64 ac, .int .i64 ak, .slice c ll d] 28))
  have VA := V.new w11 [.int .i64 ac, .int .i64 ak, .slice c ll d] 28
  clear s_VR f_VR z_VR s_VT f_VT z_VT
  obtain ⟨s_VR, f_VR, z_VR⟩ := VR.open
  obtain ⟨s_VT, f_VT, z_VT⟩ := VT.open
  obtain ⟨s_VA, f_VA, z_VA⟩ := VA.open
  have Bo := B
  have OL := Hid.mk (fun b hb => (O.lt b hb).1)
  clear s_VR f_VR z_VR s_VT f_VT z_VT s_VA f_VA z_VA
  have VF := Hid.mk (VR.filled [.int .i64 ac, .int .i64 ak, .slice c ll d] rfl)
  have HT := Hid.mk VR.there
  have BR := belowCells B (show w.heap.size ≤ w.heap.size by (first | omega | (simp; done) | (simp; omega))) 0 [.int .i64 ac, .int .i64 ak, .slice c ll d]
  replace BR := Hid.mk BR
  have HO := Hid.mk ((O.mono (show w.heap.size ≤ _ by first | omega | (simp; done) | (simp; omega))).apart (B := w.heap.size) (by intro b hb; have := OL.out b hb; first | omega | (simp at this; omega)) 0 [.int .i64 ac, .int .i64 ak, .slice c ll d])
  obtain ⟨s_VR, f_VR, z_VR⟩ := VR.open
  obtain ⟨s_VT, f_VT, z_VT⟩ := VT.open
  obtain ⟨s_VA, f_VA, z_VA⟩ := VA.open
  go_wp2_with (first | (go_at_call 50; refine (CI.out _).mono ?_; rintro e wq ⟨rfl, rfl⟩) | (go_at_call 51; refine (CK.out _).mono ?_; rintro e wq ⟨rfl, rfl⟩) | (refine wpList_store_mid rfl 28 _ _ rfl (w.heap.size) 0 #[.int .i64 ac, .int .i64 ak, .slice c ll d] rfl rfl HT.out (by kernel_rfl) (by kernel_rfl) ?_))
  refine bodyPost_ret (v := .tuple #[.agg #[.int .i64 ac, .int .i64 ak, .slice c ll d], .int .i64 ae]) (results_row_n Tryz.results24 _ _ (w.heap.size) [.int .i64 ac, .int .i64 ak, .slice c ll d] _ _ rfl VF.out Tryz.underlying28 rfl (by kernel_rfl) rfl) rfl ⟨c, d, rfl, HO.out, BR.out⟩

end Go.Proofs.YtfldgeokigcokaaGreat

/- Reading a term's bytes: the model, a half. -/
namespace Go.Proofs.YtfldgeokigcokaaGreat
open Go.RowKit

set_option maxRecDepth 20000 in
set_option maxHeartbeats 16000000 in
theorem l7Decode_half_no (b2 o2 m cb : Nat) (ds : List Int) (hb : Bytes ds) (hm : ds.length = m) (hm4 : m ≤ 400) (k : Nat) (a : Option Addr) (n ca : Nat) (xs : List T4) (w : World) (ha : RdTerm w a xs) (hn : xs.length = n) (hx : n ≤ 1000) (hca : a = none → ca = 0) (hr : Rd .u8 w (some ⟨b2, o2, none⟩) ds) (dp : Int) (hdp : -1000 ≤ dp ∧ dp ≤ 30) (hk : k < m) (ho : ds.getD k 0 = 6) (A : Go.Proofs.YtfldgeokigcokaaGreat.Put × Int) (CA : ∀ w : World, RdTerm w a xs → Rd .u8 w (some ⟨b2, o2, none⟩) ds → Calls Tryz.prog 24 #[.slice a n ca, .slice (some ⟨b2, o2, none⟩) m cb, .int .i64 ((k : Int) + 1), .int .i64 (dp + 1)] w (Reads w A)) (W : Well ds A) (hs : ((tmAt A.1.l A.1.k).o != 2) = true) :
    Calls Tryz.prog 24 #[.slice a n ca, .slice (some ⟨b2, o2, none⟩) m cb, .int .i64 (k : Int), .int .i64 dp] w (Reads w (⟨0, 0, []⟩, -1)) := by
  have q1 := build_tr_
  have q2 := build_tm1
  obtain ⟨hd0, hd1⟩ := hdp
  unfold Reads
  have hkm : (k : Int) < (m : Int) := by omega
  have g1 : decide (m ≤ k) = false := by simp; omega
  have g2 : decide (30 < dp) = false := by simp; omega
  have HA := Hid.mk ha
  have HR := Hid.mk hr
  have _u := And.intro hb (And.intro hm4 (And.intro hx (And.intro hn hca)))
  have rk : (w.alloc (.cells #[.int .i64 0, .int .i64 0, .slice none 0 0] 28)).cell? ⟨b2, o2 + k, none⟩ = some (.int .u8 6) := by
    rcases hr.kept (belowA w (.cells #[.int .i64 0, .int .i64 0, .slice none 0 0] 28)) with h0 | ⟨b3, o3, e3, h3⟩
    · rw [h0] at hm; simp at hm; omega
    · simp only [Option.some.injEq, Addr.mk.injEq, and_true] at e3
      obtain ⟨rfl, rfl⟩ := e3
      rw [h3 k (by omega), ho]
  unfold Reads at CA
  obtain ⟨⟨ac, ak, al⟩, ae⟩ := A
  obtain ⟨w1, w2, w3, w4, w5, w6⟩ := W
  simp only at CA hs w1 w2 w3 w4 w5 w6 ⊢
  subst w1
  obtain ⟨ja, rfl⟩ : ∃ j : Nat, ak = (j : Int) := ⟨ak.toNat, by omega⟩
  obtain ⟨ll, hll⟩ : ∃ l, al.length = l := ⟨_, rfl⟩
  have hl4 : ll ≤ 400 := by have := (tfC_zero w2).1; omega
  have hjl : (ja : Int) < (ll : Int) := by omega
  rw [hll] at CA
  unfold tmAt at hs
  simp only [Int.toNat_natCast] at hs
  obtain ⟨xj, hxj⟩ : ∃ x, al.getD ja zTerm = x := ⟨_, rfl⟩
  rw [hxj] at hs
  replace CA := Hid.mk CA
  have hbad : decide (ae < 0) = false := by simp; omega
  have CI := l1In_ok 6 1 7
  rw [show btw 6 1 7 = true from btw_iff.2 (by omega)] at CI
  replace CI := Hid.mk CI
  have CK := l5Kids_ok 6
  rw [show kids 6 = 1 by unfold kids; simp] at CK
  replace CK := Hid.mk CK
  go_enter Tryz.func24, Tryz.ntmps24
  have B := Below.refl w.heap.size w
  replace B := thenB B (belowA w (.cells #[.int .i64 0, .int .i64 0, .slice none 0 0] 28))
  have VR := V.new w [.int .i64 0, .int .i64 0, .slice none 0 0] 28
  replace VR := VR.kept (belowA (w.alloc (.cells #[.int .i64 0, .int .i64 0, .slice none 0 0] 28)) (.cells #[.int .i64 6, .int .i64 0, .int .i64 0, .int .i64 0] 70))
  replace B := thenB B (belowA (w.alloc (.cells #[.int .i64 0, .int .i64 0, .slice none 0 0] 28)) (.cells #[.int .i64 6, .int .i64 0, .int .i64 0, .int .i64 0] 70))
  have VT : V ((w.alloc (.cells #[.int .i64 0, .int .i64 0, .slice none 0 0] 28)).alloc (.cells #[.int .i64 6, .int .i64 0, .int .i64 0, .int .i64 0] 70)) (w.heap.size + 1) [.int .i64 6, .int .i64 0, .int .i64 0, .int .i64 0] := V.newAt _ _ _ _ (by simp)
  obtain ⟨s_VR, f_VR, z_VR⟩ := VR.open
  obtain ⟨s_VT, f_VT, z_VT⟩ := VT.open
  have Bo := B
  go_wp2_with (first | (go_at_call 50; refine (CI.out _).mono ?_; rintro e wq ⟨rfl, rfl⟩) | (go_at_call 51; refine (CK.out _).mono ?_; rintro e wq ⟨rfl, rfl⟩) | fail)
  refine (CA.out _ (HA.out.kept B) (HR.out.kept B)).mono ?_
  rintro e w11 ⟨c, d, rfl, O, b11⟩
  clear s_VR f_VR z_VR s_VT f_VT z_VT
  have S11 := b11.size
  simp only [World.size_alloc] at S11
  replace VR := VR.kept b11
  replace VT := VT.kept b11
  replace B := thenB B b11
  clear b11
  obtain ⟨s_VR, f_VR, z_VR⟩ := VR.open
  obtain ⟨s_VT, f_VT, z_VT⟩ := VT.open
  have Bo := B
  replace VR := VR.kept (belowA w11 (.cells #[.int .i64 0, .int .i64 (ja : Int), .slice c ll d] 28))
  replace VT := VT.kept (belowA w11 (.cells #[.int .i64 0, .int .i64 (ja : Int), .slice c ll d] 28))
  replace O := O.kept (belowA w11 (.cells #[.int .i64 0, .int .i64 (ja : Int), .slice c ll d] 28))
  replace B := thenB B (belowA w11 (.cells #[.int .i64 0, .int .i64 (ja : Int), .slice c ll d] 28))
  have VA := V.new w11 [.int .i64 0, .int .i64 (ja : Int), .slice c ll d] 28
  clear s_VR f_VR z_VR s_VT f_VT z_VT
  obtain ⟨s_VR, f_VR, z_VR⟩ := VR.open
  obtain ⟨s_VT, f_VT, z_VT⟩ := VT.open
  obtain ⟨s_VA, f_VA, z_VA⟩ := VA.open
  replace VR := VR.other (p := ⟨w.heap.size + 1, 1, none⟩) (by (try simp); (try omega)) (.int .i64 (ja : Int))
  replace VT := VT.set (i := 1) (by simp) (.int .i64 (ja : Int))
  simp only [List.set_cons_zero, List.set_cons_succ] at VT
  replace VA := VA.other (p := ⟨w.heap.size + 1, 1, none⟩) (by (try simp); (try omega)) (.int .i64 (ja : Int))
  replace O := O.below (p := ⟨w.heap.size + 1, 1, none⟩) (by (try simp); (try omega)) (.int .i64 (ja : Int))
  replace B := B.setCell (p := ⟨w.heap.size + 1, 1, none⟩) (by (try simp); (try omega)) (.int .i64 (ja : Int))
  go_upto_region 15 with fail
  clear s_VR f_VR z_VR s_VT f_VT z_VT s_VA f_VA z_VA
  obtain ⟨s_VR, f_VR, z_VR⟩ := VR.open
  obtain ⟨s_VT, f_VT, z_VT⟩ := VT.open
  obtain ⟨s_VA, f_VA, z_VA⟩ := VA.open
  have Bo := B
  have hcn := ownTerm_nocap O
  rcases O.rd with h0 | ⟨b4, o4, rfl, hca4⟩
  · rw [h0] at hll; simp at hll; omega
  obtain ⟨p0, _, _, p3⟩ := RdTerm.cells hca4 ja (by omega) _ hxj
  clear hca4 hxj
  go_wp2_with (first | (go_at_call 50; refine (CI.out _).mono ?_; rintro e wq ⟨rfl, rfl⟩) | (go_at_call 51; refine (CK.out _).mono ?_; rintro e wq ⟨rfl, rfl⟩) | fail)
  go_quiet (fail)
  clear s_VR f_VR z_VR s_VT f_VT z_VT s_VA f_VA z_VA
  have bq := belowN (Below.refl (((w11.alloc (.cells #[.int .i64 0, .int .i64 (ja : Int), .slice (some ⟨b4, o4, none⟩) ll d] 28)).setCell ⟨w.heap.size + 1, 1, none⟩ (.int .i64 (ja : Int)))).heap.size (((w11.alloc (.cells #[.int .i64 0, .int .i64 (ja : Int), .slice (some ⟨b4, o4, none⟩) ll d] 28)).setCell ⟨w.heap.size + 1, 1, none⟩ (.int .i64 (ja : Int))))) nq
  have Sq := bq.size
  try simp only [World.size_alloc, World.size_setCell] at Sq
  replace VR := VR.kept bq
  replace VT := VT.kept bq
  replace VA := VA.kept bq
  replace O := O.kept bq
  replace B := thenB B bq
  clear bq
  generalize World.drewN ((w11.alloc (.cells #[.int .i64 0, .int .i64 (ja : Int), .slice (some ⟨b4, o4, none⟩) ll d] 28)).setCell ⟨w.heap.size + 1, 1, none⟩ (.int .i64 (ja : Int))) nq = wn at *
  obtain ⟨s_VR, f_VR, z_VR⟩ := VR.open
  obtain ⟨s_VT, f_VT, z_VT⟩ := VT.open
  obtain ⟨s_VA, f_VA, z_VA⟩ := VA.open
  have Bo := B
  clear O hcn
  clear s_VR f_VR z_VR s_VT f_VT z_VT s_VA f_VA z_VA
  have VF := Hid.mk (VR.filled [.int .i64 0, .int .i64 0, .slice none 0 0] rfl)
  have HT := Hid.mk VR.there
  have BR := belowCells B (show w.heap.size ≤ w.heap.size by (first | omega | (simp; done) | (simp; omega))) 0 [.int .i64 0, .int .i64 0, .slice none 0 0]
  replace BR := Hid.mk BR
  obtain ⟨s_VR, f_VR, z_VR⟩ := VR.open
  obtain ⟨s_VT, f_VT, z_VT⟩ := VT.open
  obtain ⟨s_VA, f_VA, z_VA⟩ := VA.open
  go_wp2_with (first | (go_at_call 50; refine (CI.out _).mono ?_; rintro e wq ⟨rfl, rfl⟩) | (go_at_call 51; refine (CK.out _).mono ?_; rintro e wq ⟨rfl, rfl⟩) | (refine wpList_store_mid rfl 28 _ _ rfl (w.heap.size) 0 #[.int .i64 0, .int .i64 0, .slice none 0 0] rfl rfl HT.out (by kernel_rfl) (by kernel_rfl) ?_))
  refine bodyPost_ret (v := .tuple #[.agg #[.int .i64 0, .int .i64 0, .slice none 0 0], .int .i64 (-1)]) (results_row_n Tryz.results24 _ _ (w.heap.size) [.int .i64 0, .int .i64 0, .slice none 0 0] _ _ rfl VF.out Tryz.underlying28 rfl (by kernel_rfl) rfl) rfl ⟨none, 0, rfl, OwnTerm.none, BR.out⟩

set_option maxRecDepth 20000 in
set_option maxHeartbeats 16000000 in
theorem l7Decode_half (b2 o2 m cb : Nat) (ds : List Int) (hb : Bytes ds) (hm : ds.length = m) (hm4 : m ≤ 400) (k : Nat) (a : Option Addr) (n ca : Nat) (xs : List T4) (w : World) (ha : RdTerm w a xs) (hn : xs.length = n) (hx : n ≤ 1000) (hca : a = none → ca = 0) (hr : Rd .u8 w (some ⟨b2, o2, none⟩) ds) (dp : Int) (hdp : -1000 ≤ dp ∧ dp ≤ 30) (hk : k < m) (ho : ds.getD k 0 = 6) (A : Go.Proofs.YtfldgeokigcokaaGreat.Put × Int) (CA : ∀ w : World, RdTerm w a xs → Rd .u8 w (some ⟨b2, o2, none⟩) ds → Calls Tryz.prog 24 #[.slice a n ca, .slice (some ⟨b2, o2, none⟩) m cb, .int .i64 ((k : Int) + 1), .int .i64 (dp + 1)] w (Reads w A)) (W : Well ds A) (hs : (tmAt A.1.l A.1.k).o = 2) :
    Calls Tryz.prog 24 #[.slice a n ca, .slice (some ⟨b2, o2, none⟩) m cb, .int .i64 (k : Int), .int .i64 dp] w (Reads w (put A.1.l ⟨6, A.1.k, 0, 0⟩, A.2)) := by
  have q1 := build_tr_
  have q2 := build_tm1
  obtain ⟨hd0, hd1⟩ := hdp
  unfold Reads
  have hkm : (k : Int) < (m : Int) := by omega
  have g1 : decide (m ≤ k) = false := by simp; omega
  have g2 : decide (30 < dp) = false := by simp; omega
  have HA := Hid.mk ha
  have HR := Hid.mk hr
  have _u := And.intro hb (And.intro hm4 (And.intro hx (And.intro hn hca)))
  have rk : (w.alloc (.cells #[.int .i64 0, .int .i64 0, .slice none 0 0] 28)).cell? ⟨b2, o2 + k, none⟩ = some (.int .u8 6) := by
    rcases hr.kept (belowA w (.cells #[.int .i64 0, .int .i64 0, .slice none 0 0] 28)) with h0 | ⟨b3, o3, e3, h3⟩
    · rw [h0] at hm; simp at hm; omega
    · simp only [Option.some.injEq, Addr.mk.injEq, and_true] at e3
      obtain ⟨rfl, rfl⟩ := e3
      rw [h3 k (by omega), ho]
  unfold Reads at CA
  obtain ⟨⟨ac, ak, al⟩, ae⟩ := A
  obtain ⟨w1, w2, w3, w4, w5, w6⟩ := W
  simp only at CA hs w1 w2 w3 w4 w5 w6 ⊢
  subst w1
  obtain ⟨ja, rfl⟩ : ∃ j : Nat, ak = (j : Int) := ⟨ak.toNat, by omega⟩
  obtain ⟨ll, hll⟩ : ∃ l, al.length = l := ⟨_, rfl⟩
  have hl4 : ll ≤ 400 := by have := (tfC_zero w2).1; omega
  have hjl : (ja : Int) < (ll : Int) := by omega
  rw [hll] at CA
  unfold tmAt at hs
  simp only [Int.toNat_natCast] at hs
  obtain ⟨xj, hxj⟩ : ∃ x, al.getD ja zTerm = x := ⟨_, rfl⟩
  rw [hxj] at hs
  replace CA := Hid.mk CA
  have hbad : decide (ae < 0) = false := by simp; omega
  have CP := fun c d w h hc => l5Put_ok c ll d al ⟨6, (ja : Int), 0, 0⟩ w h hll (by omega) hc
  generalize put al ⟨6, (ja : Int), 0, 0⟩ = P at *
  obtain ⟨pc, pk, pl⟩ := P
  simp only at CP ⊢
  obtain ⟨l3, hl3⟩ : ∃ l, pl.length = l := ⟨_, rfl⟩
  rw [hl3] at CP ⊢
  replace CP := Hid.mk CP
  have CI := l1In_ok 6 1 7
  rw [show btw 6 1 7 = true from btw_iff.2 (by omega)] at CI
  replace CI := Hid.mk CI
  have CK := l5Kids_ok 6
  rw [show kids 6 = 1 by unfold kids; simp] at CK
  replace CK := Hid.mk CK
  go_enter Tryz.func24, Tryz.ntmps24
  have B := Below.refl w.heap.size w
  replace B := thenB B (belowA w (.cells #[.int .i64 0, .int .i64 0, .slice none 0 0] 28))
  have VR := V.new w [.int .i64 0, .int .i64 0, .slice none 0 0] 28
  replace VR := VR.kept (belowA (w.alloc (.cells #[.int .i64 0, .int .i64 0, .slice none 0 0] 28)) (.cells #[.int .i64 6, .int .i64 0, .int .i64 0, .int .i64 0] 70))
  replace B := thenB B (belowA (w.alloc (.cells #[.int .i64 0, .int .i64 0, .slice none 0 0] 28)) (.cells #[.int .i64 6, .int .i64 0, .int .i64 0, .int .i64 0] 70))
  have VT : V ((w.alloc (.cells #[.int .i64 0, .int .i64 0, .slice none 0 0] 28)).alloc (.cells #[.int .i64 6, .int .i64 0, .int .i64 0, .int .i64 0] 70)) (w.heap.size + 1) [.int .i64 6, .int .i64 0, .int .i64 0, .int .i64 0] := V.newAt _ _ _ _ (by simp)
  obtain ⟨s_VR, f_VR, z_VR⟩ := VR.open
  obtain ⟨s_VT, f_VT, z_VT⟩ := VT.open
  have Bo := B
  go_wp2_with (first | (go_at_call 50; refine (CI.out _).mono ?_; rintro e wq ⟨rfl, rfl⟩) | (go_at_call 51; refine (CK.out _).mono ?_; rintro e wq ⟨rfl, rfl⟩) | fail)
  refine (CA.out _ (HA.out.kept B) (HR.out.kept B)).mono ?_
  rintro e w11 ⟨c, d, rfl, O, b11⟩
  clear s_VR f_VR z_VR s_VT f_VT z_VT
  have S11 := b11.size
  simp only [World.size_alloc] at S11
  replace VR := VR.kept b11
  replace VT := VT.kept b11
  replace B := thenB B b11
  clear b11
  obtain ⟨s_VR, f_VR, z_VR⟩ := VR.open
  obtain ⟨s_VT, f_VT, z_VT⟩ := VT.open
  have Bo := B
  replace VR := VR.kept (belowA w11 (.cells #[.int .i64 0, .int .i64 (ja : Int), .slice c ll d] 28))
  replace VT := VT.kept (belowA w11 (.cells #[.int .i64 0, .int .i64 (ja : Int), .slice c ll d] 28))
  replace O := O.kept (belowA w11 (.cells #[.int .i64 0, .int .i64 (ja : Int), .slice c ll d] 28))
  replace B := thenB B (belowA w11 (.cells #[.int .i64 0, .int .i64 (ja : Int), .slice c ll d] 28))
  have VA := V.new w11 [.int .i64 0, .int .i64 (ja : Int), .slice c ll d] 28
  clear s_VR f_VR z_VR s_VT f_VT z_VT
  obtain ⟨s_VR, f_VR, z_VR⟩ := VR.open
  obtain ⟨s_VT, f_VT, z_VT⟩ := VT.open
  obtain ⟨s_VA, f_VA, z_VA⟩ := VA.open
  replace VR := VR.other (p := ⟨w.heap.size + 1, 1, none⟩) (by (try simp); (try omega)) (.int .i64 (ja : Int))
  replace VT := VT.set (i := 1) (by simp) (.int .i64 (ja : Int))
  simp only [List.set_cons_zero, List.set_cons_succ] at VT
  replace VA := VA.other (p := ⟨w.heap.size + 1, 1, none⟩) (by (try simp); (try omega)) (.int .i64 (ja : Int))
  replace O := O.below (p := ⟨w.heap.size + 1, 1, none⟩) (by (try simp); (try omega)) (.int .i64 (ja : Int))
  replace B := B.setCell (p := ⟨w.heap.size + 1, 1, none⟩) (by (try simp); (try omega)) (.int .i64 (ja : Int))
  go_upto_region 15 with fail
  clear s_VR f_VR z_VR s_VT f_VT z_VT s_VA f_VA z_VA
  obtain ⟨s_VR, f_VR, z_VR⟩ := VR.open
  obtain ⟨s_VT, f_VT, z_VT⟩ := VT.open
  obtain ⟨s_VA, f_VA, z_VA⟩ := VA.open
  have Bo := B
  have hcn := ownTerm_nocap O
  rcases O.rd with h0 | ⟨b4, o4, rfl, hca4⟩
  · rw [h0] at hll; simp at hll; omega
  obtain ⟨p0, _, _, p3⟩ := RdTerm.cells hca4 ja (by omega) _ hxj
  clear hca4 hxj
  rw [hs] at p0
  go_wp2_with (first | (go_at_call 50; refine (CI.out _).mono ?_; rintro e wq ⟨rfl, rfl⟩) | (go_at_call 51; refine (CK.out _).mono ?_; rintro e wq ⟨rfl, rfl⟩) | fail)
  go_quiet (fail)
  clear s_VR f_VR z_VR s_VT f_VT z_VT s_VA f_VA z_VA
  have bq := belowN (Below.refl (((w11.alloc (.cells #[.int .i64 0, .int .i64 (ja : Int), .slice (some ⟨b4, o4, none⟩) ll d] 28)).setCell ⟨w.heap.size + 1, 1, none⟩ (.int .i64 (ja : Int)))).heap.size (((w11.alloc (.cells #[.int .i64 0, .int .i64 (ja : Int), .slice (some ⟨b4, o4, none⟩) ll d] 28)).setCell ⟨w.heap.size + 1, 1, none⟩ (.int .i64 (ja : Int))))) nq
  have Sq := bq.size
  try simp only [World.size_alloc, World.size_setCell] at Sq
  replace VR := VR.kept bq
  replace VT := VT.kept bq
  replace VA := VA.kept bq
  replace O := O.kept bq
  replace B := thenB B bq
  clear bq
  generalize World.drewN ((w11.alloc (.cells #[.int .i64 0, .int .i64 (ja : Int), .slice (some ⟨b4, o4, none⟩) ll d] 28)).setCell ⟨w.heap.size + 1, 1, none⟩ (.int .i64 (ja : Int))) nq = wn at *
  obtain ⟨s_VR, f_VR, z_VR⟩ := VR.open
  obtain ⟨s_VT, f_VT, z_VT⟩ := VT.open
  obtain ⟨s_VA, f_VA, z_VA⟩ := VA.open
  have Bo := B
  go_wp2_with (first | (go_at_call 50; refine (CI.out _).mono ?_; rintro e wq ⟨rfl, rfl⟩) | (go_at_call 51; refine (CK.out _).mono ?_; rintro e wq ⟨rfl, rfl⟩) | fail)
  refine (CP.out _ _ _ O.rd hcn).mono ?_
  rintro e w12 ⟨c3, d3, rfl, O3, b12⟩
  clear s_VR f_VR z_VR s_VT f_VT z_VT s_VA f_VA z_VA
  have S12 := b12.size
  replace VR := VR.kept b12
  replace VT := VT.kept b12
  replace VA := VA.kept b12
  replace B := thenB B b12
  clear b12
  obtain ⟨s_VR, f_VR, z_VR⟩ := VR.open
  obtain ⟨s_VT, f_VT, z_VT⟩ := VT.open
  obtain ⟨s_VA, f_VA, z_VA⟩ := VA.open
  have Bo := B
  have OL := Hid.mk (fun b hb => (O3.lt b hb).1)
  clear s_VR f_VR z_VR s_VT f_VT z_VT s_VA f_VA z_VA
  have VF := Hid.mk (VR.filled [.int .i64 pc, .int .i64 pk, .slice c3 l3 d3] rfl)
  have HT := Hid.mk VR.there
  have BR := belowCells B (show w.heap.size ≤ w.heap.size by (first | omega | (simp; done) | (simp; omega))) 0 [.int .i64 pc, .int .i64 pk, .slice c3 l3 d3]
  replace BR := Hid.mk BR
  have HO := Hid.mk ((O3.mono (show w.heap.size ≤ _ by first | omega | (simp; done) | (simp; omega))).apart (B := w.heap.size) (by intro b hb; have := OL.out b hb; first | omega | (simp at this; omega)) 0 [.int .i64 pc, .int .i64 pk, .slice c3 l3 d3])
  obtain ⟨s_VR, f_VR, z_VR⟩ := VR.open
  obtain ⟨s_VT, f_VT, z_VT⟩ := VT.open
  obtain ⟨s_VA, f_VA, z_VA⟩ := VA.open
  go_wp2_with (first | (go_at_call 50; refine (CI.out _).mono ?_; rintro e wq ⟨rfl, rfl⟩) | (go_at_call 51; refine (CK.out _).mono ?_; rintro e wq ⟨rfl, rfl⟩) | (refine wpList_store_mid rfl 28 _ _ rfl (w.heap.size) 0 #[.int .i64 pc, .int .i64 pk, .slice c3 l3 d3] rfl rfl HT.out (by kernel_rfl) (by kernel_rfl) ?_))
  refine bodyPost_ret (v := .tuple #[.agg #[.int .i64 pc, .int .i64 pk, .slice c3 l3 d3], .int .i64 ae]) (results_row_n Tryz.results24 _ _ (w.heap.size) [.int .i64 pc, .int .i64 pk, .slice c3 l3 d3] _ _ rfl VF.out Tryz.underlying28 rfl (by kernel_rfl) rfl) rfl ⟨c3, d3, rfl, HO.out, BR.out⟩

end Go.Proofs.YtfldgeokigcokaaGreat

/- Reading a term's bytes: the model, what stops at the second named term. -/
namespace Go.Proofs.YtfldgeokigcokaaGreat
open Go.RowKit

set_option maxRecDepth 20000 in
set_option maxHeartbeats 16000000 in
theorem l7Decode_stop2_none (b2 o2 m cb : Nat) (ds : List Int) (hb : Bytes ds) (hm : ds.length = m) (hm4 : m ≤ 400) (k : Nat) (a : Option Addr) (n ca : Nat) (xs : List T4) (w : World) (ha : RdTerm w a xs) (hn : xs.length = n) (hx : n ≤ 1000) (hca : a = none → ca = 0) (hr : Rd .u8 w (some ⟨b2, o2, none⟩) ds) (dp : Int) (hdp : -1000 ≤ dp ∧ dp ≤ 30) (hk : k < m) (o : Int) (ho : ds.getD k 0 = o) (hob : btw o 1 7 = true) (hkk : kids o = 2) (A : Go.Proofs.YtfldgeokigcokaaGreat.Put × Int) (CA : ∀ w : World, RdTerm w a xs → Rd .u8 w (some ⟨b2, o2, none⟩) ds → Calls Tryz.prog 24 #[.slice a n ca, .slice (some ⟨b2, o2, none⟩) m cb, .int .i64 ((k : Int) + 1), .int .i64 (dp + 1)] w (Reads w A)) (W : Well ds A) (D : Go.Proofs.YtfldgeokigcokaaGreat.Put × Int) (CB : ∀ (c : Option Addr) (d : Nat) (w : World), RdTerm w c A.1.l → (c = none → d = 0) → Rd .u8 w (some ⟨b2, o2, none⟩) ds → Calls Tryz.prog 24 #[.slice c A.1.l.length d, .slice (some ⟨b2, o2, none⟩) m cb, .int .i64 A.2, .int .i64 (dp + 1)] w (Reads w D)) (hs : D.2 < 0) :
    Calls Tryz.prog 24 #[.slice a n ca, .slice (some ⟨b2, o2, none⟩) m cb, .int .i64 (k : Int), .int .i64 dp] w (Reads w D) := by
  have q1 := build_tr_
  have q2 := build_tm1
  obtain ⟨hd0, hd1⟩ := hdp
  unfold Reads
  have hkm : (k : Int) < (m : Int) := by omega
  have g1 : decide (m ≤ k) = false := by simp; omega
  have g2 : decide (30 < dp) = false := by simp; omega
  have HA := Hid.mk ha
  have HR := Hid.mk hr
  have _u := And.intro hb (And.intro hm4 (And.intro hx (And.intro hn hca)))
  have rk : (w.alloc (.cells #[.int .i64 0, .int .i64 0, .slice none 0 0] 28)).cell? ⟨b2, o2 + k, none⟩ = some (.int .u8 o) := by
    rcases hr.kept (belowA w (.cells #[.int .i64 0, .int .i64 0, .slice none 0 0] 28)) with h0 | ⟨b3, o3, e3, h3⟩
    · rw [h0] at hm; simp at hm; omega
    · simp only [Option.some.injEq, Addr.mk.injEq, and_true] at e3
      obtain ⟨rfl, rfl⟩ := e3
      rw [h3 k (by omega), ho]
  unfold Reads at CA CB
  obtain ⟨⟨ac, ak, al⟩, ae⟩ := A
  obtain ⟨⟨bc, bk, bl⟩, be⟩ := D
  obtain ⟨w1, w2, w3, w4, w5, w6⟩ := W
  simp only at CA CB hs w1 w2 w3 w4 w5 w6 ⊢
  subst w1
  obtain ⟨ll, hll⟩ : ∃ l, al.length = l := ⟨_, rfl⟩
  obtain ⟨l2, hl2⟩ : ∃ l, bl.length = l := ⟨_, rfl⟩
  rw [hll] at CA CB
  rw [hl2] at CB ⊢
  replace CA := Hid.mk CA
  replace CB := Hid.mk CB
  have hbad : decide (ae < 0) = false := by simp; omega
  have hb0 : 0 ≤ o := by have := btw_iff.1 hob; omega
  have hb1 : o < 256 := by have := btw_iff.1 hob; omega
  have CI := l1In_ok o 1 7
  rw [hob] at CI
  replace CI := Hid.mk CI
  have CK := l5Kids_ok o
  rw [hkk] at CK
  replace CK := Hid.mk CK
  clear hkk hob
  go_enter Tryz.func24, Tryz.ntmps24
  have B := Below.refl w.heap.size w
  replace B := thenB B (belowA w (.cells #[.int .i64 0, .int .i64 0, .slice none 0 0] 28))
  have VR := V.new w [.int .i64 0, .int .i64 0, .slice none 0 0] 28
  replace VR := VR.kept (belowA (w.alloc (.cells #[.int .i64 0, .int .i64 0, .slice none 0 0] 28)) (.cells #[.int .i64 o, .int .i64 0, .int .i64 0, .int .i64 0] 70))
  replace B := thenB B (belowA (w.alloc (.cells #[.int .i64 0, .int .i64 0, .slice none 0 0] 28)) (.cells #[.int .i64 o, .int .i64 0, .int .i64 0, .int .i64 0] 70))
  have VT : V ((w.alloc (.cells #[.int .i64 0, .int .i64 0, .slice none 0 0] 28)).alloc (.cells #[.int .i64 o, .int .i64 0, .int .i64 0, .int .i64 0] 70)) (w.heap.size + 1) [.int .i64 o, .int .i64 0, .int .i64 0, .int .i64 0] := V.newAt _ _ _ _ (by simp)
  obtain ⟨s_VR, f_VR, z_VR⟩ := VR.open
  obtain ⟨s_VT, f_VT, z_VT⟩ := VT.open
  have Bo := B
  go_wp2_with (first | (go_at_call 50; refine (CI.out _).mono ?_; rintro e wq ⟨rfl, rfl⟩) | (go_at_call 51; refine (CK.out _).mono ?_; rintro e wq ⟨rfl, rfl⟩) | fail)
  refine (CA.out _ (HA.out.kept B) (HR.out.kept B)).mono ?_
  rintro e w11 ⟨c, d, rfl, O, b11⟩
  clear s_VR f_VR z_VR s_VT f_VT z_VT
  have S11 := b11.size
  simp only [World.size_alloc] at S11
  replace VR := VR.kept b11
  replace VT := VT.kept b11
  replace B := thenB B b11
  clear b11
  obtain ⟨s_VR, f_VR, z_VR⟩ := VR.open
  obtain ⟨s_VT, f_VT, z_VT⟩ := VT.open
  have Bo := B
  replace VR := VR.kept (belowA w11 (.cells #[.int .i64 0, .int .i64 ak, .slice c ll d] 28))
  replace VT := VT.kept (belowA w11 (.cells #[.int .i64 0, .int .i64 ak, .slice c ll d] 28))
  replace O := O.kept (belowA w11 (.cells #[.int .i64 0, .int .i64 ak, .slice c ll d] 28))
  replace B := thenB B (belowA w11 (.cells #[.int .i64 0, .int .i64 ak, .slice c ll d] 28))
  have VA := V.new w11 [.int .i64 0, .int .i64 ak, .slice c ll d] 28
  clear s_VR f_VR z_VR s_VT f_VT z_VT
  obtain ⟨s_VR, f_VR, z_VR⟩ := VR.open
  obtain ⟨s_VT, f_VT, z_VT⟩ := VT.open
  obtain ⟨s_VA, f_VA, z_VA⟩ := VA.open
  replace VR := VR.other (p := ⟨w.heap.size + 1, 1, none⟩) (by (try simp); (try omega)) (.int .i64 ak)
  replace VT := VT.set (i := 1) (by simp) (.int .i64 ak)
  simp only [List.set_cons_zero, List.set_cons_succ] at VT
  replace VA := VA.other (p := ⟨w.heap.size + 1, 1, none⟩) (by (try simp); (try omega)) (.int .i64 ak)
  replace O := O.below (p := ⟨w.heap.size + 1, 1, none⟩) (by (try simp); (try omega)) (.int .i64 ak)
  replace B := B.setCell (p := ⟨w.heap.size + 1, 1, none⟩) (by (try simp); (try omega)) (.int .i64 ak)
  go_upto_region 15 with fail
  clear s_VR f_VR z_VR s_VT f_VT z_VT s_VA f_VA z_VA
  obtain ⟨s_VR, f_VR, z_VR⟩ := VR.open
  obtain ⟨s_VT, f_VT, z_VT⟩ := VT.open
  obtain ⟨s_VA, f_VA, z_VA⟩ := VA.open
  have Bo := B
  have hcn := ownTerm_nocap O
  go_wp2_with (first | (go_at_call 50; refine (CI.out _).mono ?_; rintro e wq ⟨rfl, rfl⟩) | (go_at_call 51; refine (CK.out _).mono ?_; rintro e wq ⟨rfl, rfl⟩) | fail)
  refine (CB.out _ _ _ O.rd hcn (HR.out.kept B)).mono ?_
  rintro e w12 ⟨c2, d2, rfl, O2, b12⟩
  clear s_VR f_VR z_VR s_VT f_VT z_VT s_VA f_VA z_VA
  have S12 := b12.size
  simp only [World.size_alloc, World.size_setCell] at S12
  replace VR := VR.kept b12
  replace VT := VT.kept b12
  replace VA := VA.kept b12
  replace O := O.kept b12
  replace B := thenB B b12
  clear b12
  obtain ⟨s_VR, f_VR, z_VR⟩ := VR.open
  obtain ⟨s_VT, f_VT, z_VT⟩ := VT.open
  obtain ⟨s_VA, f_VA, z_VA⟩ := VA.open
  have Bo := B
  replace VR := VR.kept (belowA w12 (.cells #[.int .i64 bc, .int .i64 bk, .slice c2 l2 d2] 28))
  replace VT := VT.kept (belowA w12 (.cells #[.int .i64 bc, .int .i64 bk, .slice c2 l2 d2] 28))
  replace VA := VA.kept (belowA w12 (.cells #[.int .i64 bc, .int .i64 bk, .slice c2 l2 d2] 28))
  replace O := O.kept (belowA w12 (.cells #[.int .i64 bc, .int .i64 bk, .slice c2 l2 d2] 28))
  replace O2 := O2.kept (belowA w12 (.cells #[.int .i64 bc, .int .i64 bk, .slice c2 l2 d2] 28))
  replace B := thenB B (belowA w12 (.cells #[.int .i64 bc, .int .i64 bk, .slice c2 l2 d2] 28))
  have VB := V.new w12 [.int .i64 bc, .int .i64 bk, .slice c2 l2 d2] 28
  clear s_VR f_VR z_VR s_VT f_VT z_VT s_VA f_VA z_VA
  obtain ⟨s_VR, f_VR, z_VR⟩ := VR.open
  obtain ⟨s_VT, f_VT, z_VT⟩ := VT.open
  obtain ⟨s_VA, f_VA, z_VA⟩ := VA.open
  obtain ⟨s_VB, f_VB, z_VB⟩ := VB.open
  have Bo := B
  have OL := Hid.mk (fun b hb => (O2.lt b hb).1)
  clear s_VR f_VR z_VR s_VT f_VT z_VT s_VA f_VA z_VA s_VB f_VB z_VB
  have VF := Hid.mk (VR.filled [.int .i64 bc, .int .i64 bk, .slice c2 l2 d2] rfl)
  have HT := Hid.mk VR.there
  have BR := belowCells B (show w.heap.size ≤ w.heap.size by (first | omega | (simp; done) | (simp; omega))) 0 [.int .i64 bc, .int .i64 bk, .slice c2 l2 d2]
  replace BR := Hid.mk BR
  have HO := Hid.mk ((O2.mono (show w.heap.size ≤ _ by first | omega | (simp; done) | (simp; omega))).apart (B := w.heap.size) (by intro b hb; have := OL.out b hb; first | omega | (simp at this; omega)) 0 [.int .i64 bc, .int .i64 bk, .slice c2 l2 d2])
  obtain ⟨s_VR, f_VR, z_VR⟩ := VR.open
  obtain ⟨s_VT, f_VT, z_VT⟩ := VT.open
  obtain ⟨s_VA, f_VA, z_VA⟩ := VA.open
  obtain ⟨s_VB, f_VB, z_VB⟩ := VB.open
  go_wp2_with (first | (go_at_call 50; refine (CI.out _).mono ?_; rintro e wq ⟨rfl, rfl⟩) | (go_at_call 51; refine (CK.out _).mono ?_; rintro e wq ⟨rfl, rfl⟩) | (refine wpList_store_mid rfl 28 _ _ rfl (w.heap.size) 0 #[.int .i64 bc, .int .i64 bk, .slice c2 l2 d2] rfl rfl HT.out (by kernel_rfl) (by kernel_rfl) ?_))
  refine bodyPost_ret (v := .tuple #[.agg #[.int .i64 bc, .int .i64 bk, .slice c2 l2 d2], .int .i64 be]) (results_row_n Tryz.results24 _ _ (w.heap.size) [.int .i64 bc, .int .i64 bk, .slice c2 l2 d2] _ _ rfl VF.out Tryz.underlying28 rfl (by kernel_rfl) rfl) rfl ⟨c2, d2, rfl, HO.out, BR.out⟩

set_option maxRecDepth 20000 in
set_option maxHeartbeats 16000000 in
theorem l7Decode_stop2_full (b2 o2 m cb : Nat) (ds : List Int) (hb : Bytes ds) (hm : ds.length = m) (hm4 : m ≤ 400) (k : Nat) (a : Option Addr) (n ca : Nat) (xs : List T4) (w : World) (ha : RdTerm w a xs) (hn : xs.length = n) (hx : n ≤ 1000) (hca : a = none → ca = 0) (hr : Rd .u8 w (some ⟨b2, o2, none⟩) ds) (dp : Int) (hdp : -1000 ≤ dp ∧ dp ≤ 30) (hk : k < m) (o : Int) (ho : ds.getD k 0 = o) (hob : btw o 1 7 = true) (hkk : kids o = 2) (A : Go.Proofs.YtfldgeokigcokaaGreat.Put × Int) (CA : ∀ w : World, RdTerm w a xs → Rd .u8 w (some ⟨b2, o2, none⟩) ds → Calls Tryz.prog 24 #[.slice a n ca, .slice (some ⟨b2, o2, none⟩) m cb, .int .i64 ((k : Int) + 1), .int .i64 (dp + 1)] w (Reads w A)) (W : Well ds A) (D : Go.Proofs.YtfldgeokigcokaaGreat.Put × Int) (CB : ∀ (c : Option Addr) (d : Nat) (w : World), RdTerm w c A.1.l → (c = none → d = 0) → Rd .u8 w (some ⟨b2, o2, none⟩) ds → Calls Tryz.prog 24 #[.slice c A.1.l.length d, .slice (some ⟨b2, o2, none⟩) m cb, .int .i64 A.2, .int .i64 (dp + 1)] w (Reads w D)) (hs : 0 ≤ D.2 ∧ (D.1.c != 0) = true) :
    Calls Tryz.prog 24 #[.slice a n ca, .slice (some ⟨b2, o2, none⟩) m cb, .int .i64 (k : Int), .int .i64 dp] w (Reads w D) := by
  have q1 := build_tr_
  have q2 := build_tm1
  obtain ⟨hd0, hd1⟩ := hdp
  unfold Reads
  have hkm : (k : Int) < (m : Int) := by omega
  have g1 : decide (m ≤ k) = false := by simp; omega
  have g2 : decide (30 < dp) = false := by simp; omega
  have HA := Hid.mk ha
  have HR := Hid.mk hr
  have _u := And.intro hb (And.intro hm4 (And.intro hx (And.intro hn hca)))
  have rk : (w.alloc (.cells #[.int .i64 0, .int .i64 0, .slice none 0 0] 28)).cell? ⟨b2, o2 + k, none⟩ = some (.int .u8 o) := by
    rcases hr.kept (belowA w (.cells #[.int .i64 0, .int .i64 0, .slice none 0 0] 28)) with h0 | ⟨b3, o3, e3, h3⟩
    · rw [h0] at hm; simp at hm; omega
    · simp only [Option.some.injEq, Addr.mk.injEq, and_true] at e3
      obtain ⟨rfl, rfl⟩ := e3
      rw [h3 k (by omega), ho]
  unfold Reads at CA CB
  obtain ⟨⟨ac, ak, al⟩, ae⟩ := A
  obtain ⟨⟨bc, bk, bl⟩, be⟩ := D
  obtain ⟨w1, w2, w3, w4, w5, w6⟩ := W
  simp only at CA CB hs w1 w2 w3 w4 w5 w6 ⊢
  subst w1
  obtain ⟨ll, hll⟩ : ∃ l, al.length = l := ⟨_, rfl⟩
  obtain ⟨l2, hl2⟩ : ∃ l, bl.length = l := ⟨_, rfl⟩
  rw [hll] at CA CB
  rw [hl2] at CB ⊢
  replace CA := Hid.mk CA
  replace CB := Hid.mk CB
  have hbad : decide (ae < 0) = false := by simp; omega
  obtain ⟨hs0, hs1⟩ := hs
  have hbad2 : decide (be < 0) = false := by simp; omega
  have hb0 : 0 ≤ o := by have := btw_iff.1 hob; omega
  have hb1 : o < 256 := by have := btw_iff.1 hob; omega
  have CI := l1In_ok o 1 7
  rw [hob] at CI
  replace CI := Hid.mk CI
  have CK := l5Kids_ok o
  rw [hkk] at CK
  replace CK := Hid.mk CK
  clear hkk hob
  go_enter Tryz.func24, Tryz.ntmps24
  have B := Below.refl w.heap.size w
  replace B := thenB B (belowA w (.cells #[.int .i64 0, .int .i64 0, .slice none 0 0] 28))
  have VR := V.new w [.int .i64 0, .int .i64 0, .slice none 0 0] 28
  replace VR := VR.kept (belowA (w.alloc (.cells #[.int .i64 0, .int .i64 0, .slice none 0 0] 28)) (.cells #[.int .i64 o, .int .i64 0, .int .i64 0, .int .i64 0] 70))
  replace B := thenB B (belowA (w.alloc (.cells #[.int .i64 0, .int .i64 0, .slice none 0 0] 28)) (.cells #[.int .i64 o, .int .i64 0, .int .i64 0, .int .i64 0] 70))
  have VT : V ((w.alloc (.cells #[.int .i64 0, .int .i64 0, .slice none 0 0] 28)).alloc (.cells #[.int .i64 o, .int .i64 0, .int .i64 0, .int .i64 0] 70)) (w.heap.size + 1) [.int .i64 o, .int .i64 0, .int .i64 0, .int .i64 0] := V.newAt _ _ _ _ (by simp)
  obtain ⟨s_VR, f_VR, z_VR⟩ := VR.open
  obtain ⟨s_VT, f_VT, z_VT⟩ := VT.open
  have Bo := B
  go_wp2_with (first | (go_at_call 50; refine (CI.out _).mono ?_; rintro e wq ⟨rfl, rfl⟩) | (go_at_call 51; refine (CK.out _).mono ?_; rintro e wq ⟨rfl, rfl⟩) | fail)
  refine (CA.out _ (HA.out.kept B) (HR.out.kept B)).mono ?_
  rintro e w11 ⟨c, d, rfl, O, b11⟩
  clear s_VR f_VR z_VR s_VT f_VT z_VT
  have S11 := b11.size
  simp only [World.size_alloc] at S11
  replace VR := VR.kept b11
  replace VT := VT.kept b11
  replace B := thenB B b11
  clear b11
  obtain ⟨s_VR, f_VR, z_VR⟩ := VR.open
  obtain ⟨s_VT, f_VT, z_VT⟩ := VT.open
  have Bo := B
  replace VR := VR.kept (belowA w11 (.cells #[.int .i64 0, .int .i64 ak, .slice c ll d] 28))
  replace VT := VT.kept (belowA w11 (.cells #[.int .i64 0, .int .i64 ak, .slice c ll d] 28))
  replace O := O.kept (belowA w11 (.cells #[.int .i64 0, .int .i64 ak, .slice c ll d] 28))
  replace B := thenB B (belowA w11 (.cells #[.int .i64 0, .int .i64 ak, .slice c ll d] 28))
  have VA := V.new w11 [.int .i64 0, .int .i64 ak, .slice c ll d] 28
  clear s_VR f_VR z_VR s_VT f_VT z_VT
  obtain ⟨s_VR, f_VR, z_VR⟩ := VR.open
  obtain ⟨s_VT, f_VT, z_VT⟩ := VT.open
  obtain ⟨s_VA, f_VA, z_VA⟩ := VA.open
  replace VR := VR.other (p := ⟨w.heap.size + 1, 1, none⟩) (by (try simp); (try omega)) (.int .i64 ak)
  replace VT := VT.set (i := 1) (by simp) (.int .i64 ak)
  simp only [List.set_cons_zero, List.set_cons_succ] at VT
  replace VA := VA.other (p := ⟨w.heap.size + 1, 1, none⟩) (by (try simp); (try omega)) (.int .i64 ak)
  replace O := O.below (p := ⟨w.heap.size + 1, 1, none⟩) (by (try simp); (try omega)) (.int .i64 ak)
  replace B := B.setCell (p := ⟨w.heap.size + 1, 1, none⟩) (by (try simp); (try omega)) (.int .i64 ak)
  go_upto_region 15 with fail
  clear s_VR f_VR z_VR s_VT f_VT z_VT s_VA f_VA z_VA
  obtain ⟨s_VR, f_VR, z_VR⟩ := VR.open
  obtain ⟨s_VT, f_VT, z_VT⟩ := VT.open
  obtain ⟨s_VA, f_VA, z_VA⟩ := VA.open
  have Bo := B
  have hcn := ownTerm_nocap O
  go_wp2_with (first | (go_at_call 50; refine (CI.out _).mono ?_; rintro e wq ⟨rfl, rfl⟩) | (go_at_call 51; refine (CK.out _).mono ?_; rintro e wq ⟨rfl, rfl⟩) | fail)
  refine (CB.out _ _ _ O.rd hcn (HR.out.kept B)).mono ?_
  rintro e w12 ⟨c2, d2, rfl, O2, b12⟩
  clear s_VR f_VR z_VR s_VT f_VT z_VT s_VA f_VA z_VA
  have S12 := b12.size
  simp only [World.size_alloc, World.size_setCell] at S12
  replace VR := VR.kept b12
  replace VT := VT.kept b12
  replace VA := VA.kept b12
  replace O := O.kept b12
  replace B := thenB B b12
  clear b12
  obtain ⟨s_VR, f_VR, z_VR⟩ := VR.open
  obtain ⟨s_VT, f_VT, z_VT⟩ := VT.open
  obtain ⟨s_VA, f_VA, z_VA⟩ := VA.open
  have Bo := B
  replace VR := VR.kept (belowA w12 (.cells #[.int .i64 bc, .int .i64 bk, .slice c2 l2 d2] 28))
  replace VT := VT.kept (belowA w12 (.cells #[.int .i64 bc, .int .i64 bk, .slice c2 l2 d2] 28))
  replace VA := VA.kept (belowA w12 (.cells #[.int .i64 bc, .int .i64 bk, .slice c2 l2 d2] 28))
  replace O := O.kept (belowA w12 (.cells #[.int .i64 bc, .int .i64 bk, .slice c2 l2 d2] 28))
  replace O2 := O2.kept (belowA w12 (.cells #[.int .i64 bc, .int .i64 bk, .slice c2 l2 d2] 28))
  replace B := thenB B (belowA w12 (.cells #[.int .i64 bc, .int .i64 bk, .slice c2 l2 d2] 28))
  have VB := V.new w12 [.int .i64 bc, .int .i64 bk, .slice c2 l2 d2] 28
  clear s_VR f_VR z_VR s_VT f_VT z_VT s_VA f_VA z_VA
  obtain ⟨s_VR, f_VR, z_VR⟩ := VR.open
  obtain ⟨s_VT, f_VT, z_VT⟩ := VT.open
  obtain ⟨s_VA, f_VA, z_VA⟩ := VA.open
  obtain ⟨s_VB, f_VB, z_VB⟩ := VB.open
  have Bo := B
  have OL := Hid.mk (fun b hb => (O2.lt b hb).1)
  clear s_VR f_VR z_VR s_VT f_VT z_VT s_VA f_VA z_VA s_VB f_VB z_VB
  have VF := Hid.mk (VR.filled [.int .i64 bc, .int .i64 bk, .slice c2 l2 d2] rfl)
  have HT := Hid.mk VR.there
  have BR := belowCells B (show w.heap.size ≤ w.heap.size by (first | omega | (simp; done) | (simp; omega))) 0 [.int .i64 bc, .int .i64 bk, .slice c2 l2 d2]
  replace BR := Hid.mk BR
  have HO := Hid.mk ((O2.mono (show w.heap.size ≤ _ by first | omega | (simp; done) | (simp; omega))).apart (B := w.heap.size) (by intro b hb; have := OL.out b hb; first | omega | (simp at this; omega)) 0 [.int .i64 bc, .int .i64 bk, .slice c2 l2 d2])
  obtain ⟨s_VR, f_VR, z_VR⟩ := VR.open
  obtain ⟨s_VT, f_VT, z_VT⟩ := VT.open
  obtain ⟨s_VA, f_VA, z_VA⟩ := VA.open
  obtain ⟨s_VB, f_VB, z_VB⟩ := VB.open
  go_wp2_with (first | (go_at_call 50; refine (CI.out _).mono ?_; rintro e wq ⟨rfl, rfl⟩) | (go_at_call 51; refine (CK.out _).mono ?_; rintro e wq ⟨rfl, rfl⟩) | (refine wpList_store_mid rfl 28 _ _ rfl (w.heap.size) 0 #[.int .i64 bc, .int .i64 bk, .slice c2 l2 d2] rfl rfl HT.out (by kernel_rfl) (by kernel_rfl) ?_))
  refine bodyPost_ret (v := .tuple #[.agg #[.int .i64 bc, .int .i64 bk, .slice c2 l2 d2], .int .i64 be]) (results_row_n Tryz.results24 _ _ (w.heap.size) [.int .i64 bc, .int .i64 bk, .slice c2 l2 d2] _ _ rfl VF.out Tryz.underlying28 rfl (by kernel_rfl) rfl) rfl ⟨c2, d2, rfl, HO.out, BR.out⟩

end Go.Proofs.YtfldgeokigcokaaGreat

/- Reading a term's bytes: the model, two named terms. -/
namespace Go.Proofs.YtfldgeokigcokaaGreat
open Go.RowKit

set_option maxRecDepth 20000 in
set_option maxHeartbeats 16000000 in
theorem l7Decode_two (b2 o2 m cb : Nat) (ds : List Int) (hb : Bytes ds) (hm : ds.length = m) (hm4 : m ≤ 400) (k : Nat) (a : Option Addr) (n ca : Nat) (xs : List T4) (w : World) (ha : RdTerm w a xs) (hn : xs.length = n) (hx : n ≤ 1000) (hca : a = none → ca = 0) (hr : Rd .u8 w (some ⟨b2, o2, none⟩) ds) (dp : Int) (hdp : -1000 ≤ dp ∧ dp ≤ 30) (hk : k < m) (o : Int) (ho : ds.getD k 0 = o) (hob : btw o 1 7 = true) (hkk : kids o = 2) (ho6 : (o == 6) = false) (ho7 : (o == 7) = false) (A : Go.Proofs.YtfldgeokigcokaaGreat.Put × Int) (CA : ∀ w : World, RdTerm w a xs → Rd .u8 w (some ⟨b2, o2, none⟩) ds → Calls Tryz.prog 24 #[.slice a n ca, .slice (some ⟨b2, o2, none⟩) m cb, .int .i64 ((k : Int) + 1), .int .i64 (dp + 1)] w (Reads w A)) (W : Well ds A) (D : Go.Proofs.YtfldgeokigcokaaGreat.Put × Int) (CB : ∀ (c : Option Addr) (d : Nat) (w : World), RdTerm w c A.1.l → (c = none → d = 0) → Rd .u8 w (some ⟨b2, o2, none⟩) ds → Calls Tryz.prog 24 #[.slice c A.1.l.length d, .slice (some ⟨b2, o2, none⟩) m cb, .int .i64 A.2, .int .i64 (dp + 1)] w (Reads w D)) (W2 : Well ds D) (hlt : A.1.k < D.1.l.length) :
    Calls Tryz.prog 24 #[.slice a n ca, .slice (some ⟨b2, o2, none⟩) m cb, .int .i64 (k : Int), .int .i64 dp] w (Reads w (put D.1.l ⟨o, A.1.k, D.1.k, 0⟩, D.2)) := by
  have q1 := build_tr_
  have q2 := build_tm1
  obtain ⟨hd0, hd1⟩ := hdp
  unfold Reads
  have hkm : (k : Int) < (m : Int) := by omega
  have g1 : decide (m ≤ k) = false := by simp; omega
  have g2 : decide (30 < dp) = false := by simp; omega
  have HA := Hid.mk ha
  have HR := Hid.mk hr
  have _u := And.intro hb (And.intro hm4 (And.intro hx (And.intro hn hca)))
  have rk : (w.alloc (.cells #[.int .i64 0, .int .i64 0, .slice none 0 0] 28)).cell? ⟨b2, o2 + k, none⟩ = some (.int .u8 o) := by
    rcases hr.kept (belowA w (.cells #[.int .i64 0, .int .i64 0, .slice none 0 0] 28)) with h0 | ⟨b3, o3, e3, h3⟩
    · rw [h0] at hm; simp at hm; omega
    · simp only [Option.some.injEq, Addr.mk.injEq, and_true] at e3
      obtain ⟨rfl, rfl⟩ := e3
      rw [h3 k (by omega), ho]
  unfold Reads at CA CB
  obtain ⟨⟨ac, ak, al⟩, ae⟩ := A
  obtain ⟨⟨bc, bk, bl⟩, be⟩ := D
  obtain ⟨w1, w2, w3, w4, w5, w6⟩ := W
  obtain ⟨v1, v2, v3, v4, v5, v6⟩ := W2
  simp only at CA CB hlt w1 w2 w3 w4 w5 w6 v1 v2 v3 v4 v5 v6 ⊢
  subst w1
  subst v1
  obtain ⟨ja, rfl⟩ : ∃ j : Nat, ak = (j : Int) := ⟨ak.toNat, by omega⟩
  obtain ⟨jb, rfl⟩ : ∃ j : Nat, bk = (j : Int) := ⟨bk.toNat, by omega⟩
  obtain ⟨ll, hll⟩ : ∃ l, al.length = l := ⟨_, rfl⟩
  obtain ⟨l2, hl2⟩ : ∃ l, bl.length = l := ⟨_, rfl⟩
  have hl4 : l2 ≤ 400 := by have := (tfC_zero v2).1; omega
  have hjl : (ja : Int) < (l2 : Int) := by omega
  have hjl2 : (jb : Int) < (l2 : Int) := by omega
  rw [hll] at CA CB
  rw [hl2] at CB
  replace CA := Hid.mk CA
  replace CB := Hid.mk CB
  have hbad : decide (ae < 0) = false := by simp; omega
  have hbad2 : decide (be < 0) = false := by simp; omega
  have CP := fun c d w h hc => l5Put_ok c l2 d bl ⟨o, (ja : Int), (jb : Int), 0⟩ w h hl2 (by omega) hc
  generalize put bl ⟨o, (ja : Int), (jb : Int), 0⟩ = P at *
  obtain ⟨pc, pk, pl⟩ := P
  simp only at CP ⊢
  obtain ⟨l3, hl3⟩ : ∃ l, pl.length = l := ⟨_, rfl⟩
  rw [hl3] at CP ⊢
  replace CP := Hid.mk CP
  have hb0 : 0 ≤ o := by have := btw_iff.1 hob; omega
  have hb1 : o < 256 := by have := btw_iff.1 hob; omega
  have CI := l1In_ok o 1 7
  rw [hob] at CI
  replace CI := Hid.mk CI
  have CK := l5Kids_ok o
  rw [hkk] at CK
  replace CK := Hid.mk CK
  clear hkk hob
  go_enter Tryz.func24, Tryz.ntmps24
  have B := Below.refl w.heap.size w
  replace B := thenB B (belowA w (.cells #[.int .i64 0, .int .i64 0, .slice none 0 0] 28))
  have VR := V.new w [.int .i64 0, .int .i64 0, .slice none 0 0] 28
  replace VR := VR.kept (belowA (w.alloc (.cells #[.int .i64 0, .int .i64 0, .slice none 0 0] 28)) (.cells #[.int .i64 o, .int .i64 0, .int .i64 0, .int .i64 0] 70))
  replace B := thenB B (belowA (w.alloc (.cells #[.int .i64 0, .int .i64 0, .slice none 0 0] 28)) (.cells #[.int .i64 o, .int .i64 0, .int .i64 0, .int .i64 0] 70))
  have VT : V ((w.alloc (.cells #[.int .i64 0, .int .i64 0, .slice none 0 0] 28)).alloc (.cells #[.int .i64 o, .int .i64 0, .int .i64 0, .int .i64 0] 70)) (w.heap.size + 1) [.int .i64 o, .int .i64 0, .int .i64 0, .int .i64 0] := V.newAt _ _ _ _ (by simp)
  obtain ⟨s_VR, f_VR, z_VR⟩ := VR.open
  obtain ⟨s_VT, f_VT, z_VT⟩ := VT.open
  have Bo := B
  go_wp2_with (first | (go_at_call 50; refine (CI.out _).mono ?_; rintro e wq ⟨rfl, rfl⟩) | (go_at_call 51; refine (CK.out _).mono ?_; rintro e wq ⟨rfl, rfl⟩) | fail)
  refine (CA.out _ (HA.out.kept B) (HR.out.kept B)).mono ?_
  rintro e w11 ⟨c, d, rfl, O, b11⟩
  clear s_VR f_VR z_VR s_VT f_VT z_VT
  have S11 := b11.size
  simp only [World.size_alloc] at S11
  replace VR := VR.kept b11
  replace VT := VT.kept b11
  replace B := thenB B b11
  clear b11
  obtain ⟨s_VR, f_VR, z_VR⟩ := VR.open
  obtain ⟨s_VT, f_VT, z_VT⟩ := VT.open
  have Bo := B
  replace VR := VR.kept (belowA w11 (.cells #[.int .i64 0, .int .i64 (ja : Int), .slice c ll d] 28))
  replace VT := VT.kept (belowA w11 (.cells #[.int .i64 0, .int .i64 (ja : Int), .slice c ll d] 28))
  replace O := O.kept (belowA w11 (.cells #[.int .i64 0, .int .i64 (ja : Int), .slice c ll d] 28))
  replace B := thenB B (belowA w11 (.cells #[.int .i64 0, .int .i64 (ja : Int), .slice c ll d] 28))
  have VA := V.new w11 [.int .i64 0, .int .i64 (ja : Int), .slice c ll d] 28
  clear s_VR f_VR z_VR s_VT f_VT z_VT
  obtain ⟨s_VR, f_VR, z_VR⟩ := VR.open
  obtain ⟨s_VT, f_VT, z_VT⟩ := VT.open
  obtain ⟨s_VA, f_VA, z_VA⟩ := VA.open
  replace VR := VR.other (p := ⟨w.heap.size + 1, 1, none⟩) (by (try simp); (try omega)) (.int .i64 (ja : Int))
  replace VT := VT.set (i := 1) (by simp) (.int .i64 (ja : Int))
  simp only [List.set_cons_zero, List.set_cons_succ] at VT
  replace VA := VA.other (p := ⟨w.heap.size + 1, 1, none⟩) (by (try simp); (try omega)) (.int .i64 (ja : Int))
  replace O := O.below (p := ⟨w.heap.size + 1, 1, none⟩) (by (try simp); (try omega)) (.int .i64 (ja : Int))
  replace B := B.setCell (p := ⟨w.heap.size + 1, 1, none⟩) (by (try simp); (try omega)) (.int .i64 (ja : Int))
  go_upto_region 15 with fail
  clear s_VR f_VR z_VR s_VT f_VT z_VT s_VA f_VA z_VA
  obtain ⟨s_VR, f_VR, z_VR⟩ := VR.open
  obtain ⟨s_VT, f_VT, z_VT⟩ := VT.open
  obtain ⟨s_VA, f_VA, z_VA⟩ := VA.open
  have Bo := B
  have hcn := ownTerm_nocap O
  go_wp2_with (first | (go_at_call 50; refine (CI.out _).mono ?_; rintro e wq ⟨rfl, rfl⟩) | (go_at_call 51; refine (CK.out _).mono ?_; rintro e wq ⟨rfl, rfl⟩) | fail)
  refine (CB.out _ _ _ O.rd hcn (HR.out.kept B)).mono ?_
  rintro e w12 ⟨c2, d2, rfl, O2, b12⟩
  clear s_VR f_VR z_VR s_VT f_VT z_VT s_VA f_VA z_VA
  have S12 := b12.size
  simp only [World.size_alloc, World.size_setCell] at S12
  replace VR := VR.kept b12
  replace VT := VT.kept b12
  replace VA := VA.kept b12
  replace O := O.kept b12
  replace B := thenB B b12
  clear b12
  obtain ⟨s_VR, f_VR, z_VR⟩ := VR.open
  obtain ⟨s_VT, f_VT, z_VT⟩ := VT.open
  obtain ⟨s_VA, f_VA, z_VA⟩ := VA.open
  have Bo := B
  clear O hcn
  replace VR := VR.kept (belowA w12 (.cells #[.int .i64 0, .int .i64 (jb : Int), .slice c2 l2 d2] 28))
  replace VT := VT.kept (belowA w12 (.cells #[.int .i64 0, .int .i64 (jb : Int), .slice c2 l2 d2] 28))
  replace VA := VA.kept (belowA w12 (.cells #[.int .i64 0, .int .i64 (jb : Int), .slice c2 l2 d2] 28))
  replace O2 := O2.kept (belowA w12 (.cells #[.int .i64 0, .int .i64 (jb : Int), .slice c2 l2 d2] 28))
  replace B := thenB B (belowA w12 (.cells #[.int .i64 0, .int .i64 (jb : Int), .slice c2 l2 d2] 28))
  have VB := V.new w12 [.int .i64 0, .int .i64 (jb : Int), .slice c2 l2 d2] 28
  clear s_VR f_VR z_VR s_VT f_VT z_VT s_VA f_VA z_VA
  obtain ⟨s_VR, f_VR, z_VR⟩ := VR.open
  obtain ⟨s_VT, f_VT, z_VT⟩ := VT.open
  obtain ⟨s_VA, f_VA, z_VA⟩ := VA.open
  obtain ⟨s_VB, f_VB, z_VB⟩ := VB.open
  replace VR := VR.other (p := ⟨w.heap.size + 1, 2, none⟩) (by (try simp); (try omega)) (.int .i64 (jb : Int))
  replace VT := VT.set (i := 2) (by simp) (.int .i64 (jb : Int))
  simp only [List.set_cons_zero, List.set_cons_succ] at VT
  replace VA := VA.other (p := ⟨w.heap.size + 1, 2, none⟩) (by (try simp); (try omega)) (.int .i64 (jb : Int))
  replace VB := VB.other (p := ⟨w.heap.size + 1, 2, none⟩) (by (try simp); (try omega)) (.int .i64 (jb : Int))
  replace O2 := O2.below (p := ⟨w.heap.size + 1, 2, none⟩) (by (try simp); (try omega)) (.int .i64 (jb : Int))
  replace B := B.setCell (p := ⟨w.heap.size + 1, 2, none⟩) (by (try simp); (try omega)) (.int .i64 (jb : Int))
  go_upto_region 21 with fail
  clear s_VR f_VR z_VR s_VT f_VT z_VT s_VA f_VA z_VA s_VB f_VB z_VB
  obtain ⟨s_VR, f_VR, z_VR⟩ := VR.open
  obtain ⟨s_VT, f_VT, z_VT⟩ := VT.open
  obtain ⟨s_VA, f_VA, z_VA⟩ := VA.open
  obtain ⟨s_VB, f_VB, z_VB⟩ := VB.open
  have Bo := B
  have hcn := ownTerm_nocap O2
  go_wp2_with (first | (go_at_call 50; refine (CI.out _).mono ?_; rintro e wq ⟨rfl, rfl⟩) | (go_at_call 51; refine (CK.out _).mono ?_; rintro e wq ⟨rfl, rfl⟩) | fail)
  refine (CP.out _ _ _ O2.rd hcn).mono ?_
  rintro e w13 ⟨c3, d3, rfl, O3, b13⟩
  clear s_VR f_VR z_VR s_VT f_VT z_VT s_VA f_VA z_VA s_VB f_VB z_VB
  have S13 := b13.size
  simp only [World.size_alloc, World.size_setCell] at S13
  replace VR := VR.kept b13
  replace VT := VT.kept b13
  replace VA := VA.kept b13
  replace VB := VB.kept b13
  replace O2 := O2.kept b13
  replace B := thenB B b13
  clear b13
  obtain ⟨s_VR, f_VR, z_VR⟩ := VR.open
  obtain ⟨s_VT, f_VT, z_VT⟩ := VT.open
  obtain ⟨s_VA, f_VA, z_VA⟩ := VA.open
  obtain ⟨s_VB, f_VB, z_VB⟩ := VB.open
  have Bo := B
  have OL := Hid.mk (fun b hb => (O3.lt b hb).1)
  clear s_VR f_VR z_VR s_VT f_VT z_VT s_VA f_VA z_VA s_VB f_VB z_VB
  have VF := Hid.mk (VR.filled [.int .i64 pc, .int .i64 pk, .slice c3 l3 d3] rfl)
  have HT := Hid.mk VR.there
  have BR := belowCells B (show w.heap.size ≤ w.heap.size by (first | omega | (simp; done) | (simp; omega))) 0 [.int .i64 pc, .int .i64 pk, .slice c3 l3 d3]
  replace BR := Hid.mk BR
  have HO := Hid.mk ((O3.mono (show w.heap.size ≤ _ by first | omega | (simp; done) | (simp; omega))).apart (B := w.heap.size) (by intro b hb; have := OL.out b hb; first | omega | (simp at this; omega)) 0 [.int .i64 pc, .int .i64 pk, .slice c3 l3 d3])
  obtain ⟨s_VR, f_VR, z_VR⟩ := VR.open
  obtain ⟨s_VT, f_VT, z_VT⟩ := VT.open
  obtain ⟨s_VA, f_VA, z_VA⟩ := VA.open
  obtain ⟨s_VB, f_VB, z_VB⟩ := VB.open
  go_wp2_with (first | (go_at_call 50; refine (CI.out _).mono ?_; rintro e wq ⟨rfl, rfl⟩) | (go_at_call 51; refine (CK.out _).mono ?_; rintro e wq ⟨rfl, rfl⟩) | (refine wpList_store_mid rfl 28 _ _ rfl (w.heap.size) 0 #[.int .i64 pc, .int .i64 pk, .slice c3 l3 d3] rfl rfl HT.out (by kernel_rfl) (by kernel_rfl) ?_))
  refine bodyPost_ret (v := .tuple #[.agg #[.int .i64 pc, .int .i64 pk, .slice c3 l3 d3], .int .i64 be]) (results_row_n Tryz.results24 _ _ (w.heap.size) [.int .i64 pc, .int .i64 pk, .slice c3 l3 d3] _ _ rfl VF.out Tryz.underlying28 rfl (by kernel_rfl) rfl) rfl ⟨c3, d3, rfl, HO.out, BR.out⟩

set_option maxRecDepth 20000 in
set_option maxHeartbeats 16000000 in
theorem l7Decode_both_x (b2 o2 m cb : Nat) (ds : List Int) (hb : Bytes ds) (hm : ds.length = m) (hm4 : m ≤ 400) (k : Nat) (a : Option Addr) (n ca : Nat) (xs : List T4) (w : World) (ha : RdTerm w a xs) (hn : xs.length = n) (hx : n ≤ 1000) (hca : a = none → ca = 0) (hr : Rd .u8 w (some ⟨b2, o2, none⟩) ds) (dp : Int) (hdp : -1000 ≤ dp ∧ dp ≤ 30) (hk : k < m) (ho : ds.getD k 0 = 7) (A : Go.Proofs.YtfldgeokigcokaaGreat.Put × Int) (CA : ∀ w : World, RdTerm w a xs → Rd .u8 w (some ⟨b2, o2, none⟩) ds → Calls Tryz.prog 24 #[.slice a n ca, .slice (some ⟨b2, o2, none⟩) m cb, .int .i64 ((k : Int) + 1), .int .i64 (dp + 1)] w (Reads w A)) (W : Well ds A) (D : Go.Proofs.YtfldgeokigcokaaGreat.Put × Int) (CB : ∀ (c : Option Addr) (d : Nat) (w : World), RdTerm w c A.1.l → (c = none → d = 0) → Rd .u8 w (some ⟨b2, o2, none⟩) ds → Calls Tryz.prog 24 #[.slice c A.1.l.length d, .slice (some ⟨b2, o2, none⟩) m cb, .int .i64 A.2, .int .i64 (dp + 1)] w (Reads w D)) (W2 : Well ds D) (hlt : A.1.k < D.1.l.length) (hs1 : ((tmAt D.1.l A.1.k).o != 2) = true) :
    Calls Tryz.prog 24 #[.slice a n ca, .slice (some ⟨b2, o2, none⟩) m cb, .int .i64 (k : Int), .int .i64 dp] w (Reads w (⟨0, 0, []⟩, -1)) := by
  have q1 := build_tr_
  have q2 := build_tm1
  obtain ⟨hd0, hd1⟩ := hdp
  unfold Reads
  have hkm : (k : Int) < (m : Int) := by omega
  have g1 : decide (m ≤ k) = false := by simp; omega
  have g2 : decide (30 < dp) = false := by simp; omega
  have HA := Hid.mk ha
  have HR := Hid.mk hr
  have _u := And.intro hb (And.intro hm4 (And.intro hx (And.intro hn hca)))
  have rk : (w.alloc (.cells #[.int .i64 0, .int .i64 0, .slice none 0 0] 28)).cell? ⟨b2, o2 + k, none⟩ = some (.int .u8 7) := by
    rcases hr.kept (belowA w (.cells #[.int .i64 0, .int .i64 0, .slice none 0 0] 28)) with h0 | ⟨b3, o3, e3, h3⟩
    · rw [h0] at hm; simp at hm; omega
    · simp only [Option.some.injEq, Addr.mk.injEq, and_true] at e3
      obtain ⟨rfl, rfl⟩ := e3
      rw [h3 k (by omega), ho]
  unfold Reads at CA CB
  obtain ⟨⟨ac, ak, al⟩, ae⟩ := A
  obtain ⟨⟨bc, bk, bl⟩, be⟩ := D
  obtain ⟨w1, w2, w3, w4, w5, w6⟩ := W
  obtain ⟨v1, v2, v3, v4, v5, v6⟩ := W2
  simp only at CA CB hlt w1 w2 w3 w4 w5 w6 v1 v2 v3 v4 v5 v6 hs1 ⊢
  subst w1
  subst v1
  obtain ⟨ja, rfl⟩ : ∃ j : Nat, ak = (j : Int) := ⟨ak.toNat, by omega⟩
  obtain ⟨jb, rfl⟩ : ∃ j : Nat, bk = (j : Int) := ⟨bk.toNat, by omega⟩
  obtain ⟨ll, hll⟩ : ∃ l, al.length = l := ⟨_, rfl⟩
  obtain ⟨l2, hl2⟩ : ∃ l, bl.length = l := ⟨_, rfl⟩
  have hl4 : l2 ≤ 400 := by have := (tfC_zero v2).1; omega
  have hjl : (ja : Int) < (l2 : Int) := by omega
  have hjl2 : (jb : Int) < (l2 : Int) := by omega
  rw [hll] at CA CB
  rw [hl2] at CB
  replace CA := Hid.mk CA
  replace CB := Hid.mk CB
  have hbad : decide (ae < 0) = false := by simp; omega
  have hbad2 : decide (be < 0) = false := by simp; omega
  unfold tmAt at hs1
  simp only [Int.toNat_natCast] at hs1
  obtain ⟨xj, hxj⟩ : ∃ x, bl.getD ja zTerm = x := ⟨_, rfl⟩
  obtain ⟨yj, hyj⟩ : ∃ x, bl.getD jb zTerm = x := ⟨_, rfl⟩
  rw [hxj] at hs1
  have CI := l1In_ok 7 1 7
  rw [show btw 7 1 7 = true from btw_iff.2 (by omega)] at CI
  replace CI := Hid.mk CI
  have CK := l5Kids_ok 7
  rw [show kids 7 = 2 by unfold kids; simp] at CK
  replace CK := Hid.mk CK
  go_enter Tryz.func24, Tryz.ntmps24
  have B := Below.refl w.heap.size w
  replace B := thenB B (belowA w (.cells #[.int .i64 0, .int .i64 0, .slice none 0 0] 28))
  have VR := V.new w [.int .i64 0, .int .i64 0, .slice none 0 0] 28
  replace VR := VR.kept (belowA (w.alloc (.cells #[.int .i64 0, .int .i64 0, .slice none 0 0] 28)) (.cells #[.int .i64 7, .int .i64 0, .int .i64 0, .int .i64 0] 70))
  replace B := thenB B (belowA (w.alloc (.cells #[.int .i64 0, .int .i64 0, .slice none 0 0] 28)) (.cells #[.int .i64 7, .int .i64 0, .int .i64 0, .int .i64 0] 70))
  have VT : V ((w.alloc (.cells #[.int .i64 0, .int .i64 0, .slice none 0 0] 28)).alloc (.cells #[.int .i64 7, .int .i64 0, .int .i64 0, .int .i64 0] 70)) (w.heap.size + 1) [.int .i64 7, .int .i64 0, .int .i64 0, .int .i64 0] := V.newAt _ _ _ _ (by simp)
  obtain ⟨s_VR, f_VR, z_VR⟩ := VR.open
  obtain ⟨s_VT, f_VT, z_VT⟩ := VT.open
  have Bo := B
  go_wp2_with (first | (go_at_call 50; refine (CI.out _).mono ?_; rintro e wq ⟨rfl, rfl⟩) | (go_at_call 51; refine (CK.out _).mono ?_; rintro e wq ⟨rfl, rfl⟩) | fail)
  refine (CA.out _ (HA.out.kept B) (HR.out.kept B)).mono ?_
  rintro e w11 ⟨c, d, rfl, O, b11⟩
  clear s_VR f_VR z_VR s_VT f_VT z_VT
  have S11 := b11.size
  simp only [World.size_alloc] at S11
  replace VR := VR.kept b11
  replace VT := VT.kept b11
  replace B := thenB B b11
  clear b11
  obtain ⟨s_VR, f_VR, z_VR⟩ := VR.open
  obtain ⟨s_VT, f_VT, z_VT⟩ := VT.open
  have Bo := B
  replace VR := VR.kept (belowA w11 (.cells #[.int .i64 0, .int .i64 (ja : Int), .slice c ll d] 28))
  replace VT := VT.kept (belowA w11 (.cells #[.int .i64 0, .int .i64 (ja : Int), .slice c ll d] 28))
  replace O := O.kept (belowA w11 (.cells #[.int .i64 0, .int .i64 (ja : Int), .slice c ll d] 28))
  replace B := thenB B (belowA w11 (.cells #[.int .i64 0, .int .i64 (ja : Int), .slice c ll d] 28))
  have VA := V.new w11 [.int .i64 0, .int .i64 (ja : Int), .slice c ll d] 28
  clear s_VR f_VR z_VR s_VT f_VT z_VT
  obtain ⟨s_VR, f_VR, z_VR⟩ := VR.open
  obtain ⟨s_VT, f_VT, z_VT⟩ := VT.open
  obtain ⟨s_VA, f_VA, z_VA⟩ := VA.open
  replace VR := VR.other (p := ⟨w.heap.size + 1, 1, none⟩) (by (try simp); (try omega)) (.int .i64 (ja : Int))
  replace VT := VT.set (i := 1) (by simp) (.int .i64 (ja : Int))
  simp only [List.set_cons_zero, List.set_cons_succ] at VT
  replace VA := VA.other (p := ⟨w.heap.size + 1, 1, none⟩) (by (try simp); (try omega)) (.int .i64 (ja : Int))
  replace O := O.below (p := ⟨w.heap.size + 1, 1, none⟩) (by (try simp); (try omega)) (.int .i64 (ja : Int))
  replace B := B.setCell (p := ⟨w.heap.size + 1, 1, none⟩) (by (try simp); (try omega)) (.int .i64 (ja : Int))
  go_upto_region 15 with fail
  clear s_VR f_VR z_VR s_VT f_VT z_VT s_VA f_VA z_VA
  obtain ⟨s_VR, f_VR, z_VR⟩ := VR.open
  obtain ⟨s_VT, f_VT, z_VT⟩ := VT.open
  obtain ⟨s_VA, f_VA, z_VA⟩ := VA.open
  have Bo := B
  have hcn := ownTerm_nocap O
  go_wp2_with (first | (go_at_call 50; refine (CI.out _).mono ?_; rintro e wq ⟨rfl, rfl⟩) | (go_at_call 51; refine (CK.out _).mono ?_; rintro e wq ⟨rfl, rfl⟩) | fail)
  refine (CB.out _ _ _ O.rd hcn (HR.out.kept B)).mono ?_
  rintro e w12 ⟨c2, d2, rfl, O2, b12⟩
  clear s_VR f_VR z_VR s_VT f_VT z_VT s_VA f_VA z_VA
  have S12 := b12.size
  simp only [World.size_alloc, World.size_setCell] at S12
  replace VR := VR.kept b12
  replace VT := VT.kept b12
  replace VA := VA.kept b12
  replace O := O.kept b12
  replace B := thenB B b12
  clear b12
  obtain ⟨s_VR, f_VR, z_VR⟩ := VR.open
  obtain ⟨s_VT, f_VT, z_VT⟩ := VT.open
  obtain ⟨s_VA, f_VA, z_VA⟩ := VA.open
  have Bo := B
  clear O hcn
  replace VR := VR.kept (belowA w12 (.cells #[.int .i64 0, .int .i64 (jb : Int), .slice c2 l2 d2] 28))
  replace VT := VT.kept (belowA w12 (.cells #[.int .i64 0, .int .i64 (jb : Int), .slice c2 l2 d2] 28))
  replace VA := VA.kept (belowA w12 (.cells #[.int .i64 0, .int .i64 (jb : Int), .slice c2 l2 d2] 28))
  replace O2 := O2.kept (belowA w12 (.cells #[.int .i64 0, .int .i64 (jb : Int), .slice c2 l2 d2] 28))
  replace B := thenB B (belowA w12 (.cells #[.int .i64 0, .int .i64 (jb : Int), .slice c2 l2 d2] 28))
  have VB := V.new w12 [.int .i64 0, .int .i64 (jb : Int), .slice c2 l2 d2] 28
  clear s_VR f_VR z_VR s_VT f_VT z_VT s_VA f_VA z_VA
  obtain ⟨s_VR, f_VR, z_VR⟩ := VR.open
  obtain ⟨s_VT, f_VT, z_VT⟩ := VT.open
  obtain ⟨s_VA, f_VA, z_VA⟩ := VA.open
  obtain ⟨s_VB, f_VB, z_VB⟩ := VB.open
  replace VR := VR.other (p := ⟨w.heap.size + 1, 2, none⟩) (by (try simp); (try omega)) (.int .i64 (jb : Int))
  replace VT := VT.set (i := 2) (by simp) (.int .i64 (jb : Int))
  simp only [List.set_cons_zero, List.set_cons_succ] at VT
  replace VA := VA.other (p := ⟨w.heap.size + 1, 2, none⟩) (by (try simp); (try omega)) (.int .i64 (jb : Int))
  replace VB := VB.other (p := ⟨w.heap.size + 1, 2, none⟩) (by (try simp); (try omega)) (.int .i64 (jb : Int))
  replace O2 := O2.below (p := ⟨w.heap.size + 1, 2, none⟩) (by (try simp); (try omega)) (.int .i64 (jb : Int))
  replace B := B.setCell (p := ⟨w.heap.size + 1, 2, none⟩) (by (try simp); (try omega)) (.int .i64 (jb : Int))
  go_upto_region 21 with fail
  clear s_VR f_VR z_VR s_VT f_VT z_VT s_VA f_VA z_VA s_VB f_VB z_VB
  obtain ⟨s_VR, f_VR, z_VR⟩ := VR.open
  obtain ⟨s_VT, f_VT, z_VT⟩ := VT.open
  obtain ⟨s_VA, f_VA, z_VA⟩ := VA.open
  obtain ⟨s_VB, f_VB, z_VB⟩ := VB.open
  have Bo := B
  have hcn := ownTerm_nocap O2
  rcases O2.rd with h0 | ⟨b4, o4, rfl, hca4⟩
  · rw [h0] at hl2; simp at hl2; omega
  obtain ⟨p0, _, _, p3⟩ := RdTerm.cells hca4 ja (by omega) _ hxj
  obtain ⟨r0, _, _, r3⟩ := RdTerm.cells hca4 jb (by omega) _ hyj
  clear hca4 hxj hyj
  go_wp2_with (first | (go_at_call 50; refine (CI.out _).mono ?_; rintro e wq ⟨rfl, rfl⟩) | (go_at_call 51; refine (CK.out _).mono ?_; rintro e wq ⟨rfl, rfl⟩) | fail)
  go_quiet (fail)
  clear s_VR f_VR z_VR s_VT f_VT z_VT s_VA f_VA z_VA s_VB f_VB z_VB
  have bq := belowN (Below.refl (((w12.alloc (.cells #[.int .i64 0, .int .i64 (jb : Int), .slice (some ⟨b4, o4, none⟩) l2 d2] 28)).setCell ⟨w.heap.size + 1, 2, none⟩ (.int .i64 (jb : Int)))).heap.size (((w12.alloc (.cells #[.int .i64 0, .int .i64 (jb : Int), .slice (some ⟨b4, o4, none⟩) l2 d2] 28)).setCell ⟨w.heap.size + 1, 2, none⟩ (.int .i64 (jb : Int))))) nq
  have Sq := bq.size
  try simp only [World.size_alloc, World.size_setCell] at Sq
  replace VR := VR.kept bq
  replace VT := VT.kept bq
  replace VA := VA.kept bq
  replace VB := VB.kept bq
  replace O2 := O2.kept bq
  replace B := thenB B bq
  clear bq
  generalize World.drewN ((w12.alloc (.cells #[.int .i64 0, .int .i64 (jb : Int), .slice (some ⟨b4, o4, none⟩) l2 d2] 28)).setCell ⟨w.heap.size + 1, 2, none⟩ (.int .i64 (jb : Int))) nq = wn at *
  obtain ⟨s_VR, f_VR, z_VR⟩ := VR.open
  obtain ⟨s_VT, f_VT, z_VT⟩ := VT.open
  obtain ⟨s_VA, f_VA, z_VA⟩ := VA.open
  obtain ⟨s_VB, f_VB, z_VB⟩ := VB.open
  have Bo := B
  clear O2 hcn
  clear s_VR f_VR z_VR s_VT f_VT z_VT s_VA f_VA z_VA s_VB f_VB z_VB
  have VF := Hid.mk (VR.filled [.int .i64 0, .int .i64 0, .slice none 0 0] rfl)
  have HT := Hid.mk VR.there
  have BR := belowCells B (show w.heap.size ≤ w.heap.size by (first | omega | (simp; done) | (simp; omega))) 0 [.int .i64 0, .int .i64 0, .slice none 0 0]
  replace BR := Hid.mk BR
  obtain ⟨s_VR, f_VR, z_VR⟩ := VR.open
  obtain ⟨s_VT, f_VT, z_VT⟩ := VT.open
  obtain ⟨s_VA, f_VA, z_VA⟩ := VA.open
  obtain ⟨s_VB, f_VB, z_VB⟩ := VB.open
  go_wp2_with (first | (go_at_call 50; refine (CI.out _).mono ?_; rintro e wq ⟨rfl, rfl⟩) | (go_at_call 51; refine (CK.out _).mono ?_; rintro e wq ⟨rfl, rfl⟩) | (refine wpList_store_mid rfl 28 _ _ rfl (w.heap.size) 0 #[.int .i64 0, .int .i64 0, .slice none 0 0] rfl rfl HT.out (by kernel_rfl) (by kernel_rfl) ?_))
  refine bodyPost_ret (v := .tuple #[.agg #[.int .i64 0, .int .i64 0, .slice none 0 0], .int .i64 (-1)]) (results_row_n Tryz.results24 _ _ (w.heap.size) [.int .i64 0, .int .i64 0, .slice none 0 0] _ _ rfl VF.out Tryz.underlying28 rfl (by kernel_rfl) rfl) rfl ⟨none, 0, rfl, OwnTerm.none, BR.out⟩

set_option maxRecDepth 20000 in
set_option maxHeartbeats 16000000 in
theorem l7Decode_both_y (b2 o2 m cb : Nat) (ds : List Int) (hb : Bytes ds) (hm : ds.length = m) (hm4 : m ≤ 400) (k : Nat) (a : Option Addr) (n ca : Nat) (xs : List T4) (w : World) (ha : RdTerm w a xs) (hn : xs.length = n) (hx : n ≤ 1000) (hca : a = none → ca = 0) (hr : Rd .u8 w (some ⟨b2, o2, none⟩) ds) (dp : Int) (hdp : -1000 ≤ dp ∧ dp ≤ 30) (hk : k < m) (ho : ds.getD k 0 = 7) (A : Go.Proofs.YtfldgeokigcokaaGreat.Put × Int) (CA : ∀ w : World, RdTerm w a xs → Rd .u8 w (some ⟨b2, o2, none⟩) ds → Calls Tryz.prog 24 #[.slice a n ca, .slice (some ⟨b2, o2, none⟩) m cb, .int .i64 ((k : Int) + 1), .int .i64 (dp + 1)] w (Reads w A)) (W : Well ds A) (D : Go.Proofs.YtfldgeokigcokaaGreat.Put × Int) (CB : ∀ (c : Option Addr) (d : Nat) (w : World), RdTerm w c A.1.l → (c = none → d = 0) → Rd .u8 w (some ⟨b2, o2, none⟩) ds → Calls Tryz.prog 24 #[.slice c A.1.l.length d, .slice (some ⟨b2, o2, none⟩) m cb, .int .i64 A.2, .int .i64 (dp + 1)] w (Reads w D)) (W2 : Well ds D) (hlt : A.1.k < D.1.l.length) (hs1 : (tmAt D.1.l A.1.k).o = 2) (hs2 : ((tmAt D.1.l D.1.k).o != 2) = true) :
    Calls Tryz.prog 24 #[.slice a n ca, .slice (some ⟨b2, o2, none⟩) m cb, .int .i64 (k : Int), .int .i64 dp] w (Reads w (⟨0, 0, []⟩, -1)) := by
  have q1 := build_tr_
  have q2 := build_tm1
  obtain ⟨hd0, hd1⟩ := hdp
  unfold Reads
  have hkm : (k : Int) < (m : Int) := by omega
  have g1 : decide (m ≤ k) = false := by simp; omega
  have g2 : decide (30 < dp) = false := by simp; omega
  have HA := Hid.mk ha
  have HR := Hid.mk hr
  have _u := And.intro hb (And.intro hm4 (And.intro hx (And.intro hn hca)))
  have rk : (w.alloc (.cells #[.int .i64 0, .int .i64 0, .slice none 0 0] 28)).cell? ⟨b2, o2 + k, none⟩ = some (.int .u8 7) := by
    rcases hr.kept (belowA w (.cells #[.int .i64 0, .int .i64 0, .slice none 0 0] 28)) with h0 | ⟨b3, o3, e3, h3⟩
    · rw [h0] at hm; simp at hm; omega
    · simp only [Option.some.injEq, Addr.mk.injEq, and_true] at e3
      obtain ⟨rfl, rfl⟩ := e3
      rw [h3 k (by omega), ho]
  unfold Reads at CA CB
  obtain ⟨⟨ac, ak, al⟩, ae⟩ := A
  obtain ⟨⟨bc, bk, bl⟩, be⟩ := D
  obtain ⟨w1, w2, w3, w4, w5, w6⟩ := W
  obtain ⟨v1, v2, v3, v4, v5, v6⟩ := W2
  simp only at CA CB hlt w1 w2 w3 w4 w5 w6 v1 v2 v3 v4 v5 v6 hs1 hs2 ⊢
  subst w1
  subst v1
  obtain ⟨ja, rfl⟩ : ∃ j : Nat, ak = (j : Int) := ⟨ak.toNat, by omega⟩
  obtain ⟨jb, rfl⟩ : ∃ j : Nat, bk = (j : Int) := ⟨bk.toNat, by omega⟩
  obtain ⟨ll, hll⟩ : ∃ l, al.length = l := ⟨_, rfl⟩
  obtain ⟨l2, hl2⟩ : ∃ l, bl.length = l := ⟨_, rfl⟩
  have hl4 : l2 ≤ 400 := by have := (tfC_zero v2).1; omega
  have hjl : (ja : Int) < (l2 : Int) := by omega
  have hjl2 : (jb : Int) < (l2 : Int) := by omega
  rw [hll] at CA CB
  rw [hl2] at CB
  replace CA := Hid.mk CA
  replace CB := Hid.mk CB
  have hbad : decide (ae < 0) = false := by simp; omega
  have hbad2 : decide (be < 0) = false := by simp; omega
  unfold tmAt at hs1 hs2
  simp only [Int.toNat_natCast] at hs1 hs2
  obtain ⟨xj, hxj⟩ : ∃ x, bl.getD ja zTerm = x := ⟨_, rfl⟩
  obtain ⟨yj, hyj⟩ : ∃ x, bl.getD jb zTerm = x := ⟨_, rfl⟩
  rw [hxj] at hs1
  rw [hyj] at hs2
  have CI := l1In_ok 7 1 7
  rw [show btw 7 1 7 = true from btw_iff.2 (by omega)] at CI
  replace CI := Hid.mk CI
  have CK := l5Kids_ok 7
  rw [show kids 7 = 2 by unfold kids; simp] at CK
  replace CK := Hid.mk CK
  go_enter Tryz.func24, Tryz.ntmps24
  have B := Below.refl w.heap.size w
  replace B := thenB B (belowA w (.cells #[.int .i64 0, .int .i64 0, .slice none 0 0] 28))
  have VR := V.new w [.int .i64 0, .int .i64 0, .slice none 0 0] 28
  replace VR := VR.kept (belowA (w.alloc (.cells #[.int .i64 0, .int .i64 0, .slice none 0 0] 28)) (.cells #[.int .i64 7, .int .i64 0, .int .i64 0, .int .i64 0] 70))
  replace B := thenB B (belowA (w.alloc (.cells #[.int .i64 0, .int .i64 0, .slice none 0 0] 28)) (.cells #[.int .i64 7, .int .i64 0, .int .i64 0, .int .i64 0] 70))
  have VT : V ((w.alloc (.cells #[.int .i64 0, .int .i64 0, .slice none 0 0] 28)).alloc (.cells #[.int .i64 7, .int .i64 0, .int .i64 0, .int .i64 0] 70)) (w.heap.size + 1) [.int .i64 7, .int .i64 0, .int .i64 0, .int .i64 0] := V.newAt _ _ _ _ (by simp)
  obtain ⟨s_VR, f_VR, z_VR⟩ := VR.open
  obtain ⟨s_VT, f_VT, z_VT⟩ := VT.open
  have Bo := B
  go_wp2_with (first | (go_at_call 50; refine (CI.out _).mono ?_; rintro e wq ⟨rfl, rfl⟩) | (go_at_call 51; refine (CK.out _).mono ?_; rintro e wq ⟨rfl, rfl⟩) | fail)
  refine (CA.out _ (HA.out.kept B) (HR.out.kept B)).mono ?_
  rintro e w11 ⟨c, d, rfl, O, b11⟩
  clear s_VR f_VR z_VR s_VT f_VT z_VT
  have S11 := b11.size
  simp only [World.size_alloc] at S11
  replace VR := VR.kept b11
  replace VT := VT.kept b11
  replace B := thenB B b11
  clear b11
  obtain ⟨s_VR, f_VR, z_VR⟩ := VR.open
  obtain ⟨s_VT, f_VT, z_VT⟩ := VT.open
  have Bo := B
  replace VR := VR.kept (belowA w11 (.cells #[.int .i64 0, .int .i64 (ja : Int), .slice c ll d] 28))
  replace VT := VT.kept (belowA w11 (.cells #[.int .i64 0, .int .i64 (ja : Int), .slice c ll d] 28))
  replace O := O.kept (belowA w11 (.cells #[.int .i64 0, .int .i64 (ja : Int), .slice c ll d] 28))
  replace B := thenB B (belowA w11 (.cells #[.int .i64 0, .int .i64 (ja : Int), .slice c ll d] 28))
  have VA := V.new w11 [.int .i64 0, .int .i64 (ja : Int), .slice c ll d] 28
  clear s_VR f_VR z_VR s_VT f_VT z_VT
  obtain ⟨s_VR, f_VR, z_VR⟩ := VR.open
  obtain ⟨s_VT, f_VT, z_VT⟩ := VT.open
  obtain ⟨s_VA, f_VA, z_VA⟩ := VA.open
  replace VR := VR.other (p := ⟨w.heap.size + 1, 1, none⟩) (by (try simp); (try omega)) (.int .i64 (ja : Int))
  replace VT := VT.set (i := 1) (by simp) (.int .i64 (ja : Int))
  simp only [List.set_cons_zero, List.set_cons_succ] at VT
  replace VA := VA.other (p := ⟨w.heap.size + 1, 1, none⟩) (by (try simp); (try omega)) (.int .i64 (ja : Int))
  replace O := O.below (p := ⟨w.heap.size + 1, 1, none⟩) (by (try simp); (try omega)) (.int .i64 (ja : Int))
  replace B := B.setCell (p := ⟨w.heap.size + 1, 1, none⟩) (by (try simp); (try omega)) (.int .i64 (ja : Int))
  go_upto_region 15 with fail
  clear s_VR f_VR z_VR s_VT f_VT z_VT s_VA f_VA z_VA
  obtain ⟨s_VR, f_VR, z_VR⟩ := VR.open
  obtain ⟨s_VT, f_VT, z_VT⟩ := VT.open
  obtain ⟨s_VA, f_VA, z_VA⟩ := VA.open
  have Bo := B
  have hcn := ownTerm_nocap O
  go_wp2_with (first | (go_at_call 50; refine (CI.out _).mono ?_; rintro e wq ⟨rfl, rfl⟩) | (go_at_call 51; refine (CK.out _).mono ?_; rintro e wq ⟨rfl, rfl⟩) | fail)
  refine (CB.out _ _ _ O.rd hcn (HR.out.kept B)).mono ?_
  rintro e w12 ⟨c2, d2, rfl, O2, b12⟩
  clear s_VR f_VR z_VR s_VT f_VT z_VT s_VA f_VA z_VA
  have S12 := b12.size
  simp only [World.size_alloc, World.size_setCell] at S12
  replace VR := VR.kept b12
  replace VT := VT.kept b12
  replace VA := VA.kept b12
  replace O := O.kept b12
  replace B := thenB B b12
  clear b12
  obtain ⟨s_VR, f_VR, z_VR⟩ := VR.open
  obtain ⟨s_VT, f_VT, z_VT⟩ := VT.open
  obtain ⟨s_VA, f_VA, z_VA⟩ := VA.open
  have Bo := B
  clear O hcn
  replace VR := VR.kept (belowA w12 (.cells #[.int .i64 0, .int .i64 (jb : Int), .slice c2 l2 d2] 28))
  replace VT := VT.kept (belowA w12 (.cells #[.int .i64 0, .int .i64 (jb : Int), .slice c2 l2 d2] 28))
  replace VA := VA.kept (belowA w12 (.cells #[.int .i64 0, .int .i64 (jb : Int), .slice c2 l2 d2] 28))
  replace O2 := O2.kept (belowA w12 (.cells #[.int .i64 0, .int .i64 (jb : Int), .slice c2 l2 d2] 28))
  replace B := thenB B (belowA w12 (.cells #[.int .i64 0, .int .i64 (jb : Int), .slice c2 l2 d2] 28))
  have VB := V.new w12 [.int .i64 0, .int .i64 (jb : Int), .slice c2 l2 d2] 28
  clear s_VR f_VR z_VR s_VT f_VT z_VT s_VA f_VA z_VA
  obtain ⟨s_VR, f_VR, z_VR⟩ := VR.open
  obtain ⟨s_VT, f_VT, z_VT⟩ := VT.open
  obtain ⟨s_VA, f_VA, z_VA⟩ := VA.open
  obtain ⟨s_VB, f_VB, z_VB⟩ := VB.open
  replace VR := VR.other (p := ⟨w.heap.size + 1, 2, none⟩) (by (try simp); (try omega)) (.int .i64 (jb : Int))
  replace VT := VT.set (i := 2) (by simp) (.int .i64 (jb : Int))
  simp only [List.set_cons_zero, List.set_cons_succ] at VT
  replace VA := VA.other (p := ⟨w.heap.size + 1, 2, none⟩) (by (try simp); (try omega)) (.int .i64 (jb : Int))
  replace VB := VB.other (p := ⟨w.heap.size + 1, 2, none⟩) (by (try simp); (try omega)) (.int .i64 (jb : Int))
  replace O2 := O2.below (p := ⟨w.heap.size + 1, 2, none⟩) (by (try simp); (try omega)) (.int .i64 (jb : Int))
  replace B := B.setCell (p := ⟨w.heap.size + 1, 2, none⟩) (by (try simp); (try omega)) (.int .i64 (jb : Int))
  go_upto_region 21 with fail
  clear s_VR f_VR z_VR s_VT f_VT z_VT s_VA f_VA z_VA s_VB f_VB z_VB
  obtain ⟨s_VR, f_VR, z_VR⟩ := VR.open
  obtain ⟨s_VT, f_VT, z_VT⟩ := VT.open
  obtain ⟨s_VA, f_VA, z_VA⟩ := VA.open
  obtain ⟨s_VB, f_VB, z_VB⟩ := VB.open
  have Bo := B
  have hcn := ownTerm_nocap O2
  rcases O2.rd with h0 | ⟨b4, o4, rfl, hca4⟩
  · rw [h0] at hl2; simp at hl2; omega
  obtain ⟨p0, _, _, p3⟩ := RdTerm.cells hca4 ja (by omega) _ hxj
  obtain ⟨r0, _, _, r3⟩ := RdTerm.cells hca4 jb (by omega) _ hyj
  clear hca4 hxj hyj
  rw [hs1] at p0
  go_wp2_with (first | (go_at_call 50; refine (CI.out _).mono ?_; rintro e wq ⟨rfl, rfl⟩) | (go_at_call 51; refine (CK.out _).mono ?_; rintro e wq ⟨rfl, rfl⟩) | fail)
  go_quiet (fail)
  clear s_VR f_VR z_VR s_VT f_VT z_VT s_VA f_VA z_VA s_VB f_VB z_VB
  have bq := belowN (Below.refl (((w12.alloc (.cells #[.int .i64 0, .int .i64 (jb : Int), .slice (some ⟨b4, o4, none⟩) l2 d2] 28)).setCell ⟨w.heap.size + 1, 2, none⟩ (.int .i64 (jb : Int)))).heap.size (((w12.alloc (.cells #[.int .i64 0, .int .i64 (jb : Int), .slice (some ⟨b4, o4, none⟩) l2 d2] 28)).setCell ⟨w.heap.size + 1, 2, none⟩ (.int .i64 (jb : Int))))) nq
  have Sq := bq.size
  try simp only [World.size_alloc, World.size_setCell] at Sq
  replace VR := VR.kept bq
  replace VT := VT.kept bq
  replace VA := VA.kept bq
  replace VB := VB.kept bq
  replace O2 := O2.kept bq
  replace B := thenB B bq
  clear bq
  generalize World.drewN ((w12.alloc (.cells #[.int .i64 0, .int .i64 (jb : Int), .slice (some ⟨b4, o4, none⟩) l2 d2] 28)).setCell ⟨w.heap.size + 1, 2, none⟩ (.int .i64 (jb : Int))) nq = wn at *
  obtain ⟨s_VR, f_VR, z_VR⟩ := VR.open
  obtain ⟨s_VT, f_VT, z_VT⟩ := VT.open
  obtain ⟨s_VA, f_VA, z_VA⟩ := VA.open
  obtain ⟨s_VB, f_VB, z_VB⟩ := VB.open
  have Bo := B
  clear O2 hcn
  clear s_VR f_VR z_VR s_VT f_VT z_VT s_VA f_VA z_VA s_VB f_VB z_VB
  have VF := Hid.mk (VR.filled [.int .i64 0, .int .i64 0, .slice none 0 0] rfl)
  have HT := Hid.mk VR.there
  have BR := belowCells B (show w.heap.size ≤ w.heap.size by (first | omega | (simp; done) | (simp; omega))) 0 [.int .i64 0, .int .i64 0, .slice none 0 0]
  replace BR := Hid.mk BR
  obtain ⟨s_VR, f_VR, z_VR⟩ := VR.open
  obtain ⟨s_VT, f_VT, z_VT⟩ := VT.open
  obtain ⟨s_VA, f_VA, z_VA⟩ := VA.open
  obtain ⟨s_VB, f_VB, z_VB⟩ := VB.open
  go_wp2_with (first | (go_at_call 50; refine (CI.out _).mono ?_; rintro e wq ⟨rfl, rfl⟩) | (go_at_call 51; refine (CK.out _).mono ?_; rintro e wq ⟨rfl, rfl⟩) | (refine wpList_store_mid rfl 28 _ _ rfl (w.heap.size) 0 #[.int .i64 0, .int .i64 0, .slice none 0 0] rfl rfl HT.out (by kernel_rfl) (by kernel_rfl) ?_))
  refine bodyPost_ret (v := .tuple #[.agg #[.int .i64 0, .int .i64 0, .slice none 0 0], .int .i64 (-1)]) (results_row_n Tryz.results24 _ _ (w.heap.size) [.int .i64 0, .int .i64 0, .slice none 0 0] _ _ rfl VF.out Tryz.underlying28 rfl (by kernel_rfl) rfl) rfl ⟨none, 0, rfl, OwnTerm.none, BR.out⟩

set_option maxRecDepth 20000 in
set_option maxHeartbeats 16000000 in
theorem l7Decode_both_z (b2 o2 m cb : Nat) (ds : List Int) (hb : Bytes ds) (hm : ds.length = m) (hm4 : m ≤ 400) (k : Nat) (a : Option Addr) (n ca : Nat) (xs : List T4) (w : World) (ha : RdTerm w a xs) (hn : xs.length = n) (hx : n ≤ 1000) (hca : a = none → ca = 0) (hr : Rd .u8 w (some ⟨b2, o2, none⟩) ds) (dp : Int) (hdp : -1000 ≤ dp ∧ dp ≤ 30) (hk : k < m) (ho : ds.getD k 0 = 7) (A : Go.Proofs.YtfldgeokigcokaaGreat.Put × Int) (CA : ∀ w : World, RdTerm w a xs → Rd .u8 w (some ⟨b2, o2, none⟩) ds → Calls Tryz.prog 24 #[.slice a n ca, .slice (some ⟨b2, o2, none⟩) m cb, .int .i64 ((k : Int) + 1), .int .i64 (dp + 1)] w (Reads w A)) (W : Well ds A) (D : Go.Proofs.YtfldgeokigcokaaGreat.Put × Int) (CB : ∀ (c : Option Addr) (d : Nat) (w : World), RdTerm w c A.1.l → (c = none → d = 0) → Rd .u8 w (some ⟨b2, o2, none⟩) ds → Calls Tryz.prog 24 #[.slice c A.1.l.length d, .slice (some ⟨b2, o2, none⟩) m cb, .int .i64 A.2, .int .i64 (dp + 1)] w (Reads w D)) (W2 : Well ds D) (hlt : A.1.k < D.1.l.length) (hs1 : (tmAt D.1.l A.1.k).o = 2) (hs2 : (tmAt D.1.l D.1.k).o = 2) (hs3 : (tmAt D.1.l D.1.k).n < (tmAt D.1.l A.1.k).n) :
    Calls Tryz.prog 24 #[.slice a n ca, .slice (some ⟨b2, o2, none⟩) m cb, .int .i64 (k : Int), .int .i64 dp] w (Reads w (⟨0, 0, []⟩, -1)) := by
  have q1 := build_tr_
  have q2 := build_tm1
  obtain ⟨hd0, hd1⟩ := hdp
  unfold Reads
  have hkm : (k : Int) < (m : Int) := by omega
  have g1 : decide (m ≤ k) = false := by simp; omega
  have g2 : decide (30 < dp) = false := by simp; omega
  have HA := Hid.mk ha
  have HR := Hid.mk hr
  have _u := And.intro hb (And.intro hm4 (And.intro hx (And.intro hn hca)))
  have rk : (w.alloc (.cells #[.int .i64 0, .int .i64 0, .slice none 0 0] 28)).cell? ⟨b2, o2 + k, none⟩ = some (.int .u8 7) := by
    rcases hr.kept (belowA w (.cells #[.int .i64 0, .int .i64 0, .slice none 0 0] 28)) with h0 | ⟨b3, o3, e3, h3⟩
    · rw [h0] at hm; simp at hm; omega
    · simp only [Option.some.injEq, Addr.mk.injEq, and_true] at e3
      obtain ⟨rfl, rfl⟩ := e3
      rw [h3 k (by omega), ho]
  unfold Reads at CA CB
  obtain ⟨⟨ac, ak, al⟩, ae⟩ := A
  obtain ⟨⟨bc, bk, bl⟩, be⟩ := D
  obtain ⟨w1, w2, w3, w4, w5, w6⟩ := W
  obtain ⟨v1, v2, v3, v4, v5, v6⟩ := W2
  simp only at CA CB hlt w1 w2 w3 w4 w5 w6 v1 v2 v3 v4 v5 v6 hs1 hs2 hs3 ⊢
  subst w1
  subst v1
  obtain ⟨ja, rfl⟩ : ∃ j : Nat, ak = (j : Int) := ⟨ak.toNat, by omega⟩
  obtain ⟨jb, rfl⟩ : ∃ j : Nat, bk = (j : Int) := ⟨bk.toNat, by omega⟩
  obtain ⟨ll, hll⟩ : ∃ l, al.length = l := ⟨_, rfl⟩
  obtain ⟨l2, hl2⟩ : ∃ l, bl.length = l := ⟨_, rfl⟩
  have hl4 : l2 ≤ 400 := by have := (tfC_zero v2).1; omega
  have hjl : (ja : Int) < (l2 : Int) := by omega
  have hjl2 : (jb : Int) < (l2 : Int) := by omega
  rw [hll] at CA CB
  rw [hl2] at CB
  replace CA := Hid.mk CA
  replace CB := Hid.mk CB
  have hbad : decide (ae < 0) = false := by simp; omega
  have hbad2 : decide (be < 0) = false := by simp; omega
  unfold tmAt at hs1 hs2 hs3
  simp only [Int.toNat_natCast] at hs1 hs2 hs3
  obtain ⟨xj, hxj⟩ : ∃ x, bl.getD ja zTerm = x := ⟨_, rfl⟩
  obtain ⟨yj, hyj⟩ : ∃ x, bl.getD jb zTerm = x := ⟨_, rfl⟩
  rw [hxj] at hs1
  rw [hyj] at hs2
  rw [hxj, hyj] at hs3
  have CI := l1In_ok 7 1 7
  rw [show btw 7 1 7 = true from btw_iff.2 (by omega)] at CI
  replace CI := Hid.mk CI
  have CK := l5Kids_ok 7
  rw [show kids 7 = 2 by unfold kids; simp] at CK
  replace CK := Hid.mk CK
  go_enter Tryz.func24, Tryz.ntmps24
  have B := Below.refl w.heap.size w
  replace B := thenB B (belowA w (.cells #[.int .i64 0, .int .i64 0, .slice none 0 0] 28))
  have VR := V.new w [.int .i64 0, .int .i64 0, .slice none 0 0] 28
  replace VR := VR.kept (belowA (w.alloc (.cells #[.int .i64 0, .int .i64 0, .slice none 0 0] 28)) (.cells #[.int .i64 7, .int .i64 0, .int .i64 0, .int .i64 0] 70))
  replace B := thenB B (belowA (w.alloc (.cells #[.int .i64 0, .int .i64 0, .slice none 0 0] 28)) (.cells #[.int .i64 7, .int .i64 0, .int .i64 0, .int .i64 0] 70))
  have VT : V ((w.alloc (.cells #[.int .i64 0, .int .i64 0, .slice none 0 0] 28)).alloc (.cells #[.int .i64 7, .int .i64 0, .int .i64 0, .int .i64 0] 70)) (w.heap.size + 1) [.int .i64 7, .int .i64 0, .int .i64 0, .int .i64 0] := V.newAt _ _ _ _ (by simp)
  obtain ⟨s_VR, f_VR, z_VR⟩ := VR.open
  obtain ⟨s_VT, f_VT, z_VT⟩ := VT.open
  have Bo := B
  go_wp2_with (first | (go_at_call 50; refine (CI.out _).mono ?_; rintro e wq ⟨rfl, rfl⟩) | (go_at_call 51; refine (CK.out _).mono ?_; rintro e wq ⟨rfl, rfl⟩) | fail)
  refine (CA.out _ (HA.out.kept B) (HR.out.kept B)).mono ?_
  rintro e w11 ⟨c, d, rfl, O, b11⟩
  clear s_VR f_VR z_VR s_VT f_VT z_VT
  have S11 := b11.size
  simp only [World.size_alloc] at S11
  replace VR := VR.kept b11
  replace VT := VT.kept b11
  replace B := thenB B b11
  clear b11
  obtain ⟨s_VR, f_VR, z_VR⟩ := VR.open
  obtain ⟨s_VT, f_VT, z_VT⟩ := VT.open
  have Bo := B
  replace VR := VR.kept (belowA w11 (.cells #[.int .i64 0, .int .i64 (ja : Int), .slice c ll d] 28))
  replace VT := VT.kept (belowA w11 (.cells #[.int .i64 0, .int .i64 (ja : Int), .slice c ll d] 28))
  replace O := O.kept (belowA w11 (.cells #[.int .i64 0, .int .i64 (ja : Int), .slice c ll d] 28))
  replace B := thenB B (belowA w11 (.cells #[.int .i64 0, .int .i64 (ja : Int), .slice c ll d] 28))
  have VA := V.new w11 [.int .i64 0, .int .i64 (ja : Int), .slice c ll d] 28
  clear s_VR f_VR z_VR s_VT f_VT z_VT
  obtain ⟨s_VR, f_VR, z_VR⟩ := VR.open
  obtain ⟨s_VT, f_VT, z_VT⟩ := VT.open
  obtain ⟨s_VA, f_VA, z_VA⟩ := VA.open
  replace VR := VR.other (p := ⟨w.heap.size + 1, 1, none⟩) (by (try simp); (try omega)) (.int .i64 (ja : Int))
  replace VT := VT.set (i := 1) (by simp) (.int .i64 (ja : Int))
  simp only [List.set_cons_zero, List.set_cons_succ] at VT
  replace VA := VA.other (p := ⟨w.heap.size + 1, 1, none⟩) (by (try simp); (try omega)) (.int .i64 (ja : Int))
  replace O := O.below (p := ⟨w.heap.size + 1, 1, none⟩) (by (try simp); (try omega)) (.int .i64 (ja : Int))
  replace B := B.setCell (p := ⟨w.heap.size + 1, 1, none⟩) (by (try simp); (try omega)) (.int .i64 (ja : Int))
  go_upto_region 15 with fail
  clear s_VR f_VR z_VR s_VT f_VT z_VT s_VA f_VA z_VA
  obtain ⟨s_VR, f_VR, z_VR⟩ := VR.open
  obtain ⟨s_VT, f_VT, z_VT⟩ := VT.open
  obtain ⟨s_VA, f_VA, z_VA⟩ := VA.open
  have Bo := B
  have hcn := ownTerm_nocap O
  go_wp2_with (first | (go_at_call 50; refine (CI.out _).mono ?_; rintro e wq ⟨rfl, rfl⟩) | (go_at_call 51; refine (CK.out _).mono ?_; rintro e wq ⟨rfl, rfl⟩) | fail)
  refine (CB.out _ _ _ O.rd hcn (HR.out.kept B)).mono ?_
  rintro e w12 ⟨c2, d2, rfl, O2, b12⟩
  clear s_VR f_VR z_VR s_VT f_VT z_VT s_VA f_VA z_VA
  have S12 := b12.size
  simp only [World.size_alloc, World.size_setCell] at S12
  replace VR := VR.kept b12
  replace VT := VT.kept b12
  replace VA := VA.kept b12
  replace O := O.kept b12
  replace B := thenB B b12
  clear b12
  obtain ⟨s_VR, f_VR, z_VR⟩ := VR.open
  obtain ⟨s_VT, f_VT, z_VT⟩ := VT.open
  obtain ⟨s_VA, f_VA, z_VA⟩ := VA.open
  have Bo := B
  clear O hcn
  replace VR := VR.kept (belowA w12 (.cells #[.int .i64 0, .int .i64 (jb : Int), .slice c2 l2 d2] 28))
  replace VT := VT.kept (belowA w12 (.cells #[.int .i64 0, .int .i64 (jb : Int), .slice c2 l2 d2] 28))
  replace VA := VA.kept (belowA w12 (.cells #[.int .i64 0, .int .i64 (jb : Int), .slice c2 l2 d2] 28))
  replace O2 := O2.kept (belowA w12 (.cells #[.int .i64 0, .int .i64 (jb : Int), .slice c2 l2 d2] 28))
  replace B := thenB B (belowA w12 (.cells #[.int .i64 0, .int .i64 (jb : Int), .slice c2 l2 d2] 28))
  have VB := V.new w12 [.int .i64 0, .int .i64 (jb : Int), .slice c2 l2 d2] 28
  clear s_VR f_VR z_VR s_VT f_VT z_VT s_VA f_VA z_VA
  obtain ⟨s_VR, f_VR, z_VR⟩ := VR.open
  obtain ⟨s_VT, f_VT, z_VT⟩ := VT.open
  obtain ⟨s_VA, f_VA, z_VA⟩ := VA.open
  obtain ⟨s_VB, f_VB, z_VB⟩ := VB.open
  replace VR := VR.other (p := ⟨w.heap.size + 1, 2, none⟩) (by (try simp); (try omega)) (.int .i64 (jb : Int))
  replace VT := VT.set (i := 2) (by simp) (.int .i64 (jb : Int))
  simp only [List.set_cons_zero, List.set_cons_succ] at VT
  replace VA := VA.other (p := ⟨w.heap.size + 1, 2, none⟩) (by (try simp); (try omega)) (.int .i64 (jb : Int))
  replace VB := VB.other (p := ⟨w.heap.size + 1, 2, none⟩) (by (try simp); (try omega)) (.int .i64 (jb : Int))
  replace O2 := O2.below (p := ⟨w.heap.size + 1, 2, none⟩) (by (try simp); (try omega)) (.int .i64 (jb : Int))
  replace B := B.setCell (p := ⟨w.heap.size + 1, 2, none⟩) (by (try simp); (try omega)) (.int .i64 (jb : Int))
  go_upto_region 21 with fail
  clear s_VR f_VR z_VR s_VT f_VT z_VT s_VA f_VA z_VA s_VB f_VB z_VB
  obtain ⟨s_VR, f_VR, z_VR⟩ := VR.open
  obtain ⟨s_VT, f_VT, z_VT⟩ := VT.open
  obtain ⟨s_VA, f_VA, z_VA⟩ := VA.open
  obtain ⟨s_VB, f_VB, z_VB⟩ := VB.open
  have Bo := B
  have hcn := ownTerm_nocap O2
  rcases O2.rd with h0 | ⟨b4, o4, rfl, hca4⟩
  · rw [h0] at hl2; simp at hl2; omega
  obtain ⟨p0, _, _, p3⟩ := RdTerm.cells hca4 ja (by omega) _ hxj
  obtain ⟨r0, _, _, r3⟩ := RdTerm.cells hca4 jb (by omega) _ hyj
  clear hca4 hxj hyj
  rw [hs1] at p0
  rw [hs2] at r0
  go_wp2_with (first | (go_at_call 50; refine (CI.out _).mono ?_; rintro e wq ⟨rfl, rfl⟩) | (go_at_call 51; refine (CK.out _).mono ?_; rintro e wq ⟨rfl, rfl⟩) | fail)
  go_quiet (fail)
  clear s_VR f_VR z_VR s_VT f_VT z_VT s_VA f_VA z_VA s_VB f_VB z_VB
  have bq := belowN (Below.refl (((w12.alloc (.cells #[.int .i64 0, .int .i64 (jb : Int), .slice (some ⟨b4, o4, none⟩) l2 d2] 28)).setCell ⟨w.heap.size + 1, 2, none⟩ (.int .i64 (jb : Int)))).heap.size (((w12.alloc (.cells #[.int .i64 0, .int .i64 (jb : Int), .slice (some ⟨b4, o4, none⟩) l2 d2] 28)).setCell ⟨w.heap.size + 1, 2, none⟩ (.int .i64 (jb : Int))))) nq
  have Sq := bq.size
  try simp only [World.size_alloc, World.size_setCell] at Sq
  replace VR := VR.kept bq
  replace VT := VT.kept bq
  replace VA := VA.kept bq
  replace VB := VB.kept bq
  replace O2 := O2.kept bq
  replace B := thenB B bq
  clear bq
  generalize World.drewN ((w12.alloc (.cells #[.int .i64 0, .int .i64 (jb : Int), .slice (some ⟨b4, o4, none⟩) l2 d2] 28)).setCell ⟨w.heap.size + 1, 2, none⟩ (.int .i64 (jb : Int))) nq = wn at *
  obtain ⟨s_VR, f_VR, z_VR⟩ := VR.open
  obtain ⟨s_VT, f_VT, z_VT⟩ := VT.open
  obtain ⟨s_VA, f_VA, z_VA⟩ := VA.open
  obtain ⟨s_VB, f_VB, z_VB⟩ := VB.open
  have Bo := B
  clear O2 hcn
  clear s_VR f_VR z_VR s_VT f_VT z_VT s_VA f_VA z_VA s_VB f_VB z_VB
  have VF := Hid.mk (VR.filled [.int .i64 0, .int .i64 0, .slice none 0 0] rfl)
  have HT := Hid.mk VR.there
  have BR := belowCells B (show w.heap.size ≤ w.heap.size by (first | omega | (simp; done) | (simp; omega))) 0 [.int .i64 0, .int .i64 0, .slice none 0 0]
  replace BR := Hid.mk BR
  obtain ⟨s_VR, f_VR, z_VR⟩ := VR.open
  obtain ⟨s_VT, f_VT, z_VT⟩ := VT.open
  obtain ⟨s_VA, f_VA, z_VA⟩ := VA.open
  obtain ⟨s_VB, f_VB, z_VB⟩ := VB.open
  go_wp2_with (first | (go_at_call 50; refine (CI.out _).mono ?_; rintro e wq ⟨rfl, rfl⟩) | (go_at_call 51; refine (CK.out _).mono ?_; rintro e wq ⟨rfl, rfl⟩) | (refine wpList_store_mid rfl 28 _ _ rfl (w.heap.size) 0 #[.int .i64 0, .int .i64 0, .slice none 0 0] rfl rfl HT.out (by kernel_rfl) (by kernel_rfl) ?_))
  refine bodyPost_ret (v := .tuple #[.agg #[.int .i64 0, .int .i64 0, .slice none 0 0], .int .i64 (-1)]) (results_row_n Tryz.results24 _ _ (w.heap.size) [.int .i64 0, .int .i64 0, .slice none 0 0] _ _ rfl VF.out Tryz.underlying28 rfl (by kernel_rfl) rfl) rfl ⟨none, 0, rfl, OwnTerm.none, BR.out⟩

set_option maxRecDepth 20000 in
set_option maxHeartbeats 16000000 in
theorem l7Decode_both_ok (b2 o2 m cb : Nat) (ds : List Int) (hb : Bytes ds) (hm : ds.length = m) (hm4 : m ≤ 400) (k : Nat) (a : Option Addr) (n ca : Nat) (xs : List T4) (w : World) (ha : RdTerm w a xs) (hn : xs.length = n) (hx : n ≤ 1000) (hca : a = none → ca = 0) (hr : Rd .u8 w (some ⟨b2, o2, none⟩) ds) (dp : Int) (hdp : -1000 ≤ dp ∧ dp ≤ 30) (hk : k < m) (ho : ds.getD k 0 = 7) (A : Go.Proofs.YtfldgeokigcokaaGreat.Put × Int) (CA : ∀ w : World, RdTerm w a xs → Rd .u8 w (some ⟨b2, o2, none⟩) ds → Calls Tryz.prog 24 #[.slice a n ca, .slice (some ⟨b2, o2, none⟩) m cb, .int .i64 ((k : Int) + 1), .int .i64 (dp + 1)] w (Reads w A)) (W : Well ds A) (D : Go.Proofs.YtfldgeokigcokaaGreat.Put × Int) (CB : ∀ (c : Option Addr) (d : Nat) (w : World), RdTerm w c A.1.l → (c = none → d = 0) → Rd .u8 w (some ⟨b2, o2, none⟩) ds → Calls Tryz.prog 24 #[.slice c A.1.l.length d, .slice (some ⟨b2, o2, none⟩) m cb, .int .i64 A.2, .int .i64 (dp + 1)] w (Reads w D)) (W2 : Well ds D) (hlt : A.1.k < D.1.l.length) (hs1 : (tmAt D.1.l A.1.k).o = 2) (hs2 : (tmAt D.1.l D.1.k).o = 2) (hs3 : (tmAt D.1.l A.1.k).n ≤ (tmAt D.1.l D.1.k).n) :
    Calls Tryz.prog 24 #[.slice a n ca, .slice (some ⟨b2, o2, none⟩) m cb, .int .i64 (k : Int), .int .i64 dp] w (Reads w (put D.1.l (bothT A.1.k D.1.k), D.2)) := by
  have q1 := build_tr_
  have q2 := build_tm1
  obtain ⟨hd0, hd1⟩ := hdp
  unfold Reads
  have hkm : (k : Int) < (m : Int) := by omega
  have g1 : decide (m ≤ k) = false := by simp; omega
  have g2 : decide (30 < dp) = false := by simp; omega
  have HA := Hid.mk ha
  have HR := Hid.mk hr
  have _u := And.intro hb (And.intro hm4 (And.intro hx (And.intro hn hca)))
  have rk : (w.alloc (.cells #[.int .i64 0, .int .i64 0, .slice none 0 0] 28)).cell? ⟨b2, o2 + k, none⟩ = some (.int .u8 7) := by
    rcases hr.kept (belowA w (.cells #[.int .i64 0, .int .i64 0, .slice none 0 0] 28)) with h0 | ⟨b3, o3, e3, h3⟩
    · rw [h0] at hm; simp at hm; omega
    · simp only [Option.some.injEq, Addr.mk.injEq, and_true] at e3
      obtain ⟨rfl, rfl⟩ := e3
      rw [h3 k (by omega), ho]
  unfold Reads at CA CB
  obtain ⟨⟨ac, ak, al⟩, ae⟩ := A
  obtain ⟨⟨bc, bk, bl⟩, be⟩ := D
  obtain ⟨w1, w2, w3, w4, w5, w6⟩ := W
  obtain ⟨v1, v2, v3, v4, v5, v6⟩ := W2
  simp only at CA CB hlt w1 w2 w3 w4 w5 w6 v1 v2 v3 v4 v5 v6 hs1 hs2 hs3 ⊢
  subst w1
  subst v1
  obtain ⟨ja, rfl⟩ : ∃ j : Nat, ak = (j : Int) := ⟨ak.toNat, by omega⟩
  obtain ⟨jb, rfl⟩ : ∃ j : Nat, bk = (j : Int) := ⟨bk.toNat, by omega⟩
  obtain ⟨ll, hll⟩ : ∃ l, al.length = l := ⟨_, rfl⟩
  obtain ⟨l2, hl2⟩ : ∃ l, bl.length = l := ⟨_, rfl⟩
  have hl4 : l2 ≤ 400 := by have := (tfC_zero v2).1; omega
  have hjl : (ja : Int) < (l2 : Int) := by omega
  have hjl2 : (jb : Int) < (l2 : Int) := by omega
  rw [hll] at CA CB
  rw [hl2] at CB
  replace CA := Hid.mk CA
  replace CB := Hid.mk CB
  have hbad : decide (ae < 0) = false := by simp; omega
  have hbad2 : decide (be < 0) = false := by simp; omega
  unfold tmAt at hs1 hs2 hs3
  simp only [Int.toNat_natCast] at hs1 hs2 hs3
  obtain ⟨xj, hxj⟩ : ∃ x, bl.getD ja zTerm = x := ⟨_, rfl⟩
  obtain ⟨yj, hyj⟩ : ∃ x, bl.getD jb zTerm = x := ⟨_, rfl⟩
  rw [hxj] at hs1
  rw [hyj] at hs2
  rw [hxj, hyj] at hs3
  have CP := fun c d w h hc => l5Both_ok c l2 d bl (ja : Int) (jb : Int) w h hl2 (by omega) hc
  generalize put bl (bothT (ja : Int) (jb : Int)) = P at *
  obtain ⟨pc, pk, pl⟩ := P
  simp only at CP ⊢
  obtain ⟨l3, hl3⟩ : ∃ l, pl.length = l := ⟨_, rfl⟩
  rw [hl3] at CP ⊢
  replace CP := Hid.mk CP
  have CI := l1In_ok 7 1 7
  rw [show btw 7 1 7 = true from btw_iff.2 (by omega)] at CI
  replace CI := Hid.mk CI
  have CK := l5Kids_ok 7
  rw [show kids 7 = 2 by unfold kids; simp] at CK
  replace CK := Hid.mk CK
  go_enter Tryz.func24, Tryz.ntmps24
  have B := Below.refl w.heap.size w
  replace B := thenB B (belowA w (.cells #[.int .i64 0, .int .i64 0, .slice none 0 0] 28))
  have VR := V.new w [.int .i64 0, .int .i64 0, .slice none 0 0] 28
  replace VR := VR.kept (belowA (w.alloc (.cells #[.int .i64 0, .int .i64 0, .slice none 0 0] 28)) (.cells #[.int .i64 7, .int .i64 0, .int .i64 0, .int .i64 0] 70))
  replace B := thenB B (belowA (w.alloc (.cells #[.int .i64 0, .int .i64 0, .slice none 0 0] 28)) (.cells #[.int .i64 7, .int .i64 0, .int .i64 0, .int .i64 0] 70))
  have VT : V ((w.alloc (.cells #[.int .i64 0, .int .i64 0, .slice none 0 0] 28)).alloc (.cells #[.int .i64 7, .int .i64 0, .int .i64 0, .int .i64 0] 70)) (w.heap.size + 1) [.int .i64 7, .int .i64 0, .int .i64 0, .int .i64 0] := V.newAt _ _ _ _ (by simp)
  obtain ⟨s_VR, f_VR, z_VR⟩ := VR.open
  obtain ⟨s_VT, f_VT, z_VT⟩ := VT.open
  have Bo := B
  go_wp2_with (first | (go_at_call 50; refine (CI.out _).mono ?_; rintro e wq ⟨rfl, rfl⟩) | (go_at_call 51; refine (CK.out _).mono ?_; rintro e wq ⟨rfl, rfl⟩) | fail)
  refine (CA.out _ (HA.out.kept B) (HR.out.kept B)).mono ?_
  rintro e w11 ⟨c, d, rfl, O, b11⟩
  clear s_VR f_VR z_VR s_VT f_VT z_VT
  have S11 := b11.size
  simp only [World.size_alloc] at S11
  replace VR := VR.kept b11
  replace VT := VT.kept b11
  replace B := thenB B b11
  clear b11
  obtain ⟨s_VR, f_VR, z_VR⟩ := VR.open
  obtain ⟨s_VT, f_VT, z_VT⟩ := VT.open
  have Bo := B
  replace VR := VR.kept (belowA w11 (.cells #[.int .i64 0, .int .i64 (ja : Int), .slice c ll d] 28))
  replace VT := VT.kept (belowA w11 (.cells #[.int .i64 0, .int .i64 (ja : Int), .slice c ll d] 28))
  replace O := O.kept (belowA w11 (.cells #[.int .i64 0, .int .i64 (ja : Int), .slice c ll d] 28))
  replace B := thenB B (belowA w11 (.cells #[.int .i64 0, .int .i64 (ja : Int), .slice c ll d] 28))
  have VA := V.new w11 [.int .i64 0, .int .i64 (ja : Int), .slice c ll d] 28
  clear s_VR f_VR z_VR s_VT f_VT z_VT
  obtain ⟨s_VR, f_VR, z_VR⟩ := VR.open
  obtain ⟨s_VT, f_VT, z_VT⟩ := VT.open
  obtain ⟨s_VA, f_VA, z_VA⟩ := VA.open
  replace VR := VR.other (p := ⟨w.heap.size + 1, 1, none⟩) (by (try simp); (try omega)) (.int .i64 (ja : Int))
  replace VT := VT.set (i := 1) (by simp) (.int .i64 (ja : Int))
  simp only [List.set_cons_zero, List.set_cons_succ] at VT
  replace VA := VA.other (p := ⟨w.heap.size + 1, 1, none⟩) (by (try simp); (try omega)) (.int .i64 (ja : Int))
  replace O := O.below (p := ⟨w.heap.size + 1, 1, none⟩) (by (try simp); (try omega)) (.int .i64 (ja : Int))
  replace B := B.setCell (p := ⟨w.heap.size + 1, 1, none⟩) (by (try simp); (try omega)) (.int .i64 (ja : Int))
  go_upto_region 15 with fail
  clear s_VR f_VR z_VR s_VT f_VT z_VT s_VA f_VA z_VA
  obtain ⟨s_VR, f_VR, z_VR⟩ := VR.open
  obtain ⟨s_VT, f_VT, z_VT⟩ := VT.open
  obtain ⟨s_VA, f_VA, z_VA⟩ := VA.open
  have Bo := B
  have hcn := ownTerm_nocap O
  go_wp2_with (first | (go_at_call 50; refine (CI.out _).mono ?_; rintro e wq ⟨rfl, rfl⟩) | (go_at_call 51; refine (CK.out _).mono ?_; rintro e wq ⟨rfl, rfl⟩) | fail)
  refine (CB.out _ _ _ O.rd hcn (HR.out.kept B)).mono ?_
  rintro e w12 ⟨c2, d2, rfl, O2, b12⟩
  clear s_VR f_VR z_VR s_VT f_VT z_VT s_VA f_VA z_VA
  have S12 := b12.size
  simp only [World.size_alloc, World.size_setCell] at S12
  replace VR := VR.kept b12
  replace VT := VT.kept b12
  replace VA := VA.kept b12
  replace O := O.kept b12
  replace B := thenB B b12
  clear b12
  obtain ⟨s_VR, f_VR, z_VR⟩ := VR.open
  obtain ⟨s_VT, f_VT, z_VT⟩ := VT.open
  obtain ⟨s_VA, f_VA, z_VA⟩ := VA.open
  have Bo := B
  clear O hcn
  replace VR := VR.kept (belowA w12 (.cells #[.int .i64 0, .int .i64 (jb : Int), .slice c2 l2 d2] 28))
  replace VT := VT.kept (belowA w12 (.cells #[.int .i64 0, .int .i64 (jb : Int), .slice c2 l2 d2] 28))
  replace VA := VA.kept (belowA w12 (.cells #[.int .i64 0, .int .i64 (jb : Int), .slice c2 l2 d2] 28))
  replace O2 := O2.kept (belowA w12 (.cells #[.int .i64 0, .int .i64 (jb : Int), .slice c2 l2 d2] 28))
  replace B := thenB B (belowA w12 (.cells #[.int .i64 0, .int .i64 (jb : Int), .slice c2 l2 d2] 28))
  have VB := V.new w12 [.int .i64 0, .int .i64 (jb : Int), .slice c2 l2 d2] 28
  clear s_VR f_VR z_VR s_VT f_VT z_VT s_VA f_VA z_VA
  obtain ⟨s_VR, f_VR, z_VR⟩ := VR.open
  obtain ⟨s_VT, f_VT, z_VT⟩ := VT.open
  obtain ⟨s_VA, f_VA, z_VA⟩ := VA.open
  obtain ⟨s_VB, f_VB, z_VB⟩ := VB.open
  replace VR := VR.other (p := ⟨w.heap.size + 1, 2, none⟩) (by (try simp); (try omega)) (.int .i64 (jb : Int))
  replace VT := VT.set (i := 2) (by simp) (.int .i64 (jb : Int))
  simp only [List.set_cons_zero, List.set_cons_succ] at VT
  replace VA := VA.other (p := ⟨w.heap.size + 1, 2, none⟩) (by (try simp); (try omega)) (.int .i64 (jb : Int))
  replace VB := VB.other (p := ⟨w.heap.size + 1, 2, none⟩) (by (try simp); (try omega)) (.int .i64 (jb : Int))
  replace O2 := O2.below (p := ⟨w.heap.size + 1, 2, none⟩) (by (try simp); (try omega)) (.int .i64 (jb : Int))
  replace B := B.setCell (p := ⟨w.heap.size + 1, 2, none⟩) (by (try simp); (try omega)) (.int .i64 (jb : Int))
  go_upto_region 21 with fail
  clear s_VR f_VR z_VR s_VT f_VT z_VT s_VA f_VA z_VA s_VB f_VB z_VB
  obtain ⟨s_VR, f_VR, z_VR⟩ := VR.open
  obtain ⟨s_VT, f_VT, z_VT⟩ := VT.open
  obtain ⟨s_VA, f_VA, z_VA⟩ := VA.open
  obtain ⟨s_VB, f_VB, z_VB⟩ := VB.open
  have Bo := B
  have hcn := ownTerm_nocap O2
  rcases O2.rd with h0 | ⟨b4, o4, rfl, hca4⟩
  · rw [h0] at hl2; simp at hl2; omega
  obtain ⟨p0, _, _, p3⟩ := RdTerm.cells hca4 ja (by omega) _ hxj
  obtain ⟨r0, _, _, r3⟩ := RdTerm.cells hca4 jb (by omega) _ hyj
  clear hca4 hxj hyj
  rw [hs1] at p0
  rw [hs2] at r0
  go_wp2_with (first | (go_at_call 50; refine (CI.out _).mono ?_; rintro e wq ⟨rfl, rfl⟩) | (go_at_call 51; refine (CK.out _).mono ?_; rintro e wq ⟨rfl, rfl⟩) | fail)
  go_quiet (fail)
  clear s_VR f_VR z_VR s_VT f_VT z_VT s_VA f_VA z_VA s_VB f_VB z_VB
  have bq := belowN (Below.refl (((w12.alloc (.cells #[.int .i64 0, .int .i64 (jb : Int), .slice (some ⟨b4, o4, none⟩) l2 d2] 28)).setCell ⟨w.heap.size + 1, 2, none⟩ (.int .i64 (jb : Int)))).heap.size (((w12.alloc (.cells #[.int .i64 0, .int .i64 (jb : Int), .slice (some ⟨b4, o4, none⟩) l2 d2] 28)).setCell ⟨w.heap.size + 1, 2, none⟩ (.int .i64 (jb : Int))))) nq
  have Sq := bq.size
  try simp only [World.size_alloc, World.size_setCell] at Sq
  replace VR := VR.kept bq
  replace VT := VT.kept bq
  replace VA := VA.kept bq
  replace VB := VB.kept bq
  replace O2 := O2.kept bq
  replace B := thenB B bq
  clear bq
  generalize World.drewN ((w12.alloc (.cells #[.int .i64 0, .int .i64 (jb : Int), .slice (some ⟨b4, o4, none⟩) l2 d2] 28)).setCell ⟨w.heap.size + 1, 2, none⟩ (.int .i64 (jb : Int))) nq = wn at *
  obtain ⟨s_VR, f_VR, z_VR⟩ := VR.open
  obtain ⟨s_VT, f_VT, z_VT⟩ := VT.open
  obtain ⟨s_VA, f_VA, z_VA⟩ := VA.open
  obtain ⟨s_VB, f_VB, z_VB⟩ := VB.open
  have Bo := B
  go_wp2_with (first | (go_at_call 50; refine (CI.out _).mono ?_; rintro e wq ⟨rfl, rfl⟩) | (go_at_call 51; refine (CK.out _).mono ?_; rintro e wq ⟨rfl, rfl⟩) | fail)
  refine (CP.out _ _ _ O2.rd hcn).mono ?_
  rintro e w13 ⟨c3, d3, rfl, O3, b13⟩
  clear s_VR f_VR z_VR s_VT f_VT z_VT s_VA f_VA z_VA s_VB f_VB z_VB
  have S13 := b13.size
  replace VR := VR.kept b13
  replace VT := VT.kept b13
  replace VA := VA.kept b13
  replace VB := VB.kept b13
  replace O2 := O2.kept b13
  replace B := thenB B b13
  clear b13
  obtain ⟨s_VR, f_VR, z_VR⟩ := VR.open
  obtain ⟨s_VT, f_VT, z_VT⟩ := VT.open
  obtain ⟨s_VA, f_VA, z_VA⟩ := VA.open
  obtain ⟨s_VB, f_VB, z_VB⟩ := VB.open
  have Bo := B
  have OL := Hid.mk (fun b hb => (O3.lt b hb).1)
  clear s_VR f_VR z_VR s_VT f_VT z_VT s_VA f_VA z_VA s_VB f_VB z_VB
  have VF := Hid.mk (VR.filled [.int .i64 pc, .int .i64 pk, .slice c3 l3 d3] rfl)
  have HT := Hid.mk VR.there
  have BR := belowCells B (show w.heap.size ≤ w.heap.size by (first | omega | (simp; done) | (simp; omega))) 0 [.int .i64 pc, .int .i64 pk, .slice c3 l3 d3]
  replace BR := Hid.mk BR
  have HO := Hid.mk ((O3.mono (show w.heap.size ≤ _ by first | omega | (simp; done) | (simp; omega))).apart (B := w.heap.size) (by intro b hb; have := OL.out b hb; first | omega | (simp at this; omega)) 0 [.int .i64 pc, .int .i64 pk, .slice c3 l3 d3])
  obtain ⟨s_VR, f_VR, z_VR⟩ := VR.open
  obtain ⟨s_VT, f_VT, z_VT⟩ := VT.open
  obtain ⟨s_VA, f_VA, z_VA⟩ := VA.open
  obtain ⟨s_VB, f_VB, z_VB⟩ := VB.open
  go_wp2_with (first | (go_at_call 50; refine (CI.out _).mono ?_; rintro e wq ⟨rfl, rfl⟩) | (go_at_call 51; refine (CK.out _).mono ?_; rintro e wq ⟨rfl, rfl⟩) | (refine wpList_store_mid rfl 28 _ _ rfl (w.heap.size) 0 #[.int .i64 pc, .int .i64 pk, .slice c3 l3 d3] rfl rfl HT.out (by kernel_rfl) (by kernel_rfl) ?_))
  refine bodyPost_ret (v := .tuple #[.agg #[.int .i64 pc, .int .i64 pk, .slice c3 l3 d3], .int .i64 be]) (results_row_n Tryz.results24 _ _ (w.heap.size) [.int .i64 pc, .int .i64 pk, .slice c3 l3 d3] _ _ rfl VF.out Tryz.underlying28 rfl (by kernel_rfl) rfl) rfl ⟨c3, d3, rfl, HO.out, BR.out⟩

end Go.Proofs.YtfldgeokigcokaaGreat

/- What the model reads of bytes: all ways. -/
namespace Go.Proofs.YtfldgeokigcokaaGreat
open Go.RowKit

theorem takeN_two (zs : List Int) (p : Nat) : takeN zs p 2 = zs.getD p 0 * 256 + zs.getD (p + 1) 0 := by
  rw [show (2 : Nat) = 0 + 1 + 1 from rfl, takeN_succ, takeN_succ]
  simp [takeN]

theorem kids_nz {o : Int} (h : o = 3 ∨ o = 4 ∨ o = 5 ∨ o = 6 ∨ o = 7) : (kids o == 0) = false := by
  rcases h with rfl | rfl | rfl | rfl | rfl <;> (unfold kids; rfl)

theorem kids_tw {o : Int} (h : o = 3 ∨ o = 4 ∨ o = 5 ∨ o = 7) : kids o = 2 := by
  rcases h with rfl | rfl | rfl | rfl <;> (unfold kids; rfl)

/-- What the model reads. -/
theorem l7Decode_ok (b : Option Addr) (m cb : Nat) (ds : List Int) (hb : Bytes ds) (hm : ds.length = m) (hm4 : m ≤ 400) :
    ∀ (f : Nat), f ≤ 30 → ∀ (k : Nat) (a : Option Addr) (n ca : Nat) (xs : List T4) (w : World), RdTerm w a xs → xs.length = n → tfC xs = 0 → (a = none → ca = 0) → Rd .u8 w b ds → ∀ dp : Int, dp = 31 - f →
      Calls Tryz.prog 24 #[.slice a n ca, .slice b m cb, .int .i64 (k : Int), .int .i64 dp] w (Reads w (dcd f xs ds k)) := by
  intro f
  induction f with
  | zero =>
    intro _ k a n ca xs w ha hn ht hca hr dp hdp
    have e : dcd 0 xs ds k = (⟨0, 0, []⟩, -1) := by rw [dcd]
    rw [e]
    exact l7Decode_low b m cb k a n ca w dp (by omega) (.inr (by omega))
  | succ f ih =>
    intro hf k a n ca xs w ha hn ht hca hr dp hdp
    have h4 := (tfC_zero ht).1
    by_cases hk : m ≤ k
    · have e : dcd (f + 1) xs ds k = (⟨0, 0, []⟩, -1) := by rw [dcd, if_neg (fun h => by have := h.1; omega)]
      rw [e]
      exact l7Decode_low b m cb k a n ca w dp (by omega) (.inl hk)
    have hk : k < m := by omega
    obtain ⟨b2, o2, rfl⟩ : ∃ b2 o2, b = some ⟨b2, o2, none⟩ := by
      rcases hr with h | ⟨b2, o2, rfl, _⟩
      · subst h; simp at hm; omega
      · exact ⟨_, _, rfl⟩
    have CA : ∀ w : World, RdTerm w a xs → Rd .u8 w (some ⟨b2, o2, none⟩) ds → Calls Tryz.prog 24 #[.slice a n ca, .slice (some ⟨b2, o2, none⟩) m cb, .int .i64 ((k : Int) + 1), .int .i64 (dp + 1)] w (Reads w (dcd f xs ds (k + 1))) := fun w h1 h2 => by
      have := ih (by omega) (k + 1) a n ca xs w h1 hn ht hca h2 (dp + 1) (by omega)
      rw [Int.natCast_add, Int.natCast_one] at this
      exact this
    obtain ⟨A, hA⟩ : ∃ A, dcd f xs ds (k + 1) = A := ⟨_, rfl⟩
    obtain ⟨D, hD⟩ : ∃ D, dcd f A.1.l ds A.2.toNat = D := ⟨_, rfl⟩
    have CB : Well ds A → ∀ (c : Option Addr) (d : Nat) (w : World), RdTerm w c A.1.l → (c = none → d = 0) → Rd .u8 w (some ⟨b2, o2, none⟩) ds → Calls Tryz.prog 24 #[.slice c A.1.l.length d, .slice (some ⟨b2, o2, none⟩) m cb, .int .i64 A.2, .int .i64 (dp + 1)] w (Reads w D) := fun W c d w h1 hc h2 => by
      have := ih (by omega) A.2.toNat c A.1.l.length d A.1.l w h1 rfl W.right hc h2 (dp + 1) (by omega)
      rw [hD, Int.toNat_of_nonneg W.e0] at this
      exact this
    rw [hA] at CA
    obtain ⟨o, ho⟩ : ∃ o, ds.getD k 0 = o := ⟨_, rfl⟩
    obtain ⟨nn, hnn⟩ : ∃ nn, takeN ds (k + 1) 2 = nn := ⟨_, rfl⟩
    have hnn2 := hnn
    rw [takeN_two] at hnn2
    obtain ⟨E, hE⟩ : ∃ E, dcd (f + 1) xs ds k = E := ⟨_, rfl⟩
    have P := dcd_paths f xs ds k hb ht o nn ho hnn2 A D E hA hD hE
    rw [hE]
    clear hE hnn2 ih hA hD
    rcases P with P | P | P | P | P | P | P | P | P | P | P | P | P | P | P | P
    · omega
    · obtain ⟨_, h1, rfl⟩ := P
      exact l7Decode_noop b2 o2 m cb ds hb hm hm4 k a n ca xs w ha hn (by omega) hca hr dp (by omega) hk o ho h1
    · obtain ⟨_, h1, h2, rfl⟩ := P
      rcases h1 with rfl | rfl
      · exact l7Decode_leaf1cut b2 o2 m cb ds hb hm hm4 k a n ca xs w ha hn (by omega) hca hr dp (by omega) hk ho (by omega)
      · exact l7Decode_leaf2cut b2 o2 m cb ds hb hm hm4 k a n ca xs w ha hn (by omega) hca hr dp (by omega) hk ho (by omega)
    · obtain ⟨h0, h1, h2, rfl⟩ := P
      rcases h1 with rfl | rfl
      · exact l7Decode_leaf1big b2 o2 m cb ds hb hm hm4 k a n ca xs w ha hn (by omega) hca hr dp (by omega) hk ho nn hnn (by omega) h2
      · exact l7Decode_leaf2big b2 o2 m cb ds hb hm hm4 k a n ca xs w ha hn (by omega) hca hr dp (by omega) hk ho nn hnn (by omega) h2
    · obtain ⟨h0, h1, h2, rfl⟩ := P
      rcases h1 with rfl | rfl
      · exact l7Decode_leaf1put b2 o2 m cb ds hb hm hm4 k a n ca xs w ha hn (by omega) hca hr dp (by omega) hk ho nn hnn (by omega) h2.1 h2.2
      · exact l7Decode_leaf2put b2 o2 m cb ds hb hm hm4 k a n ca xs w ha hn (by omega) hca hr dp (by omega) hk ho nn hnn (by omega) h2.1 h2.2
    · obtain ⟨_, h1, h2, rfl⟩ := P
      exact l7Decode_stop_none b2 o2 m cb ds hb hm hm4 k a n ca xs w ha hn (by omega) hca hr dp (by omega) hk o ho (btw_iff.2 (by omega)) _ rfl (kids_nz h1) _ CA h2
    · obtain ⟨_, h1, h2, h3, rfl⟩ := P
      have h3 : 0 ≤ E.2 ∧ (E.1.c != 0) = true := ⟨h2, by simp [h3]⟩
      exact l7Decode_stop_full b2 o2 m cb ds hb hm hm4 k a n ca xs w ha hn (by omega) hca hr dp (by omega) hk o ho (btw_iff.2 (by omega)) _ rfl (kids_nz h1) _ CA h3
    · obtain ⟨_, W, rfl, h2, rfl⟩ := P
      exact l7Decode_half_no b2 o2 m cb ds hb hm hm4 k a n ca xs w ha hn (by omega) hca hr dp (by omega) hk ho A CA W (by simp [h2])
    · obtain ⟨_, W, rfl, h2, rfl⟩ := P
      exact l7Decode_half b2 o2 m cb ds hb hm hm4 k a n ca xs w ha hn (by omega) hca hr dp (by omega) hk ho A CA W h2
    · obtain ⟨_, W, h1, h2, rfl⟩ := P
      have CB := CB W
      exact l7Decode_stop2_none b2 o2 m cb ds hb hm hm4 k a n ca xs w ha hn (by omega) hca hr dp (by omega) hk o ho (btw_iff.2 (by omega)) (kids_tw h1) A CA W _ CB h2
    · obtain ⟨_, W, h1, h2, h3, rfl⟩ := P
      have CB := CB W
      have h3 : 0 ≤ E.2 ∧ (E.1.c != 0) = true := ⟨h2, by simp [h3]⟩
      exact l7Decode_stop2_full b2 o2 m cb ds hb hm hm4 k a n ca xs w ha hn (by omega) hca hr dp (by omega) hk o ho (btw_iff.2 (by omega)) (kids_tw h1) A CA W _ CB h3
    · obtain ⟨_, W, W2, h1, h2, rfl⟩ := P
      have CB := CB W
      exact l7Decode_two b2 o2 m cb ds hb hm hm4 k a n ca xs w ha hn (by omega) hca hr dp (by omega) hk o ho (btw_iff.2 (by omega)) (kids_tw (by omega)) (by simp; omega) (by simp; omega) A CA W D CB W2 h1
    · obtain ⟨_, W, W2, h1, rfl, h2, rfl⟩ := P
      exact l7Decode_both_x b2 o2 m cb ds hb hm hm4 k a n ca xs w ha hn (by omega) hca hr dp (by omega) hk ho A CA W D (CB W) W2 h1 (by simp [h2])
    · obtain ⟨_, W, W2, h1, rfl, h2, h3, rfl⟩ := P
      exact l7Decode_both_y b2 o2 m cb ds hb hm hm4 k a n ca xs w ha hn (by omega) hca hr dp (by omega) hk ho A CA W D (CB W) W2 h1 h2 (by simp [h3])
    · obtain ⟨_, W, W2, h1, rfl, h2, h3, h4, rfl⟩ := P
      exact l7Decode_both_z b2 o2 m cb ds hb hm hm4 k a n ca xs w ha hn (by omega) hca hr dp (by omega) hk ho A CA W D (CB W) W2 h1 h2 h3 h4
    · obtain ⟨_, W, W2, h1, rfl, h2, h3, h4, rfl⟩ := P
      exact l7Decode_both_ok b2 o2 m cb ds hb hm hm4 k a n ca xs w ha hn (by omega) hca hr dp (by omega) hk ho A CA W D (CB W) W2 h1 h2 h3 h4

end Go.Proofs.YtfldgeokigcokaaGreat

/- DecodeTerm: the model. -/
namespace Go.Proofs.YtfldgeokigcokaaGreat
open Go.RowKit

theorem OwnTerm.none' {w : World} {base : Nat} : OwnTerm w base .none 0 [] := World.ownsRow_nil _ _ _ _

set_option maxRecDepth 20000 in
set_option maxHeartbeats 16000000 in
theorem specDecodeTerm_ok (a : Option Addr) (n ca : Nat) (xs : List T4) (b : Option Addr) (m cb : Nat) (ds : List Int) (w : World) (ha : RdTerm w a xs) (hn : xs.length = n) (hx : n ≤ 1048576) (hca : n ≤ ca) (hcn : a = none → ca = 0) (hr : Rd .u8 w b ds) (hb : Bytes ds) (hm : ds.length = m) (hm1 : m ≤ 1048576) :
    Calls Tryz.prog 7 #[.slice a n ca, .slice b m cb] w fun e w' => ∃ c d, e = .returned (.agg #[.int .i64 (deT xs ds).c, .int .i64 (deT xs ds).k, .slice c (deT xs ds).l.length d]) ∧ OwnTerm w' w.heap.size c d (deT xs ds).l ∧ Below w.heap.size w w' := by
  have q1 := build_tr0'
  have CT := Hid.mk (fun w h => specTermsFault_ok a n ca xs w h hn (by unfold maxLen; omega) hca)
  have h0 : tfC ([] : List T4) = 0 := by unfold tfC; simp [tfF]
  rcases de_ways xs ds with ⟨h, e⟩ | ⟨h, h1, e⟩ | ⟨h, h1, hw, e⟩ | ⟨t, h, h1, hw, e⟩
  · rw [e]
    have h2 : (tfC xs != 0) = true := by simp [h]
    clear e h
    generalize tfC xs = kk at *
    go_enter Tryz.func7, Tryz.ntmps7
    have B := Below.refl w.heap.size w
    replace ha := ha.kept (belowA w (.cells #[.int .i64 0, .int .i64 0, .slice none 0 0] 28))
    replace hr := hr.kept (belowA w (.cells #[.int .i64 0, .int .i64 0, .slice none 0 0] 28))
    replace B := thenB B (belowA w (.cells #[.int .i64 0, .int .i64 0, .slice none 0 0] 28))
    have VR := V.new w [.int .i64 0, .int .i64 0, .slice none 0 0] 28
    obtain ⟨s_VR, f_VR, z_VR⟩ := VR.open
    have Bo := B
    go_wp2_with fail
    refine (CT.out _ ha).mono ?_
    rintro e w1 ⟨rfl, b1⟩
    clear s_VR f_VR z_VR
    have S1 := b1.size
    simp only [World.size_alloc] at S1
    replace VR := VR.kept b1
    replace ha := ha.kept b1
    replace hr := hr.kept b1
    replace B := thenB B b1
    clear b1
    obtain ⟨s_VR, f_VR, z_VR⟩ := VR.open
    have Bo := B
    clear s_VR f_VR z_VR
    have VF := Hid.mk (VR.filled [.int .i64 kk, .int .i64 0, .slice none 0 0] rfl)
    have HT := Hid.mk VR.there
    have BR := belowCells B (show w.heap.size ≤ w.heap.size by (first | omega | (simp; done) | (simp; omega))) 0 [.int .i64 kk, .int .i64 0, .slice none 0 0]
    replace BR := Hid.mk BR
    obtain ⟨s_VR, f_VR, z_VR⟩ := VR.open
    go_wp2_with (refine wpList_store_mid rfl 28 _ _ rfl (w.heap.size) 0 #[.int .i64 kk, .int .i64 0, .slice none 0 0] rfl rfl HT.out (by kernel_rfl) (by kernel_rfl) ?_)
    refine bodyPost_ret (v := .agg #[.int .i64 kk, .int .i64 0, .slice none 0 0]) (results_row Tryz.results7 _ _ (w.heap.size) [.int .i64 kk, .int .i64 0, .slice none 0 0] _ rfl VF.out Tryz.underlying28 rfl (by kernel_rfl)) rfl ⟨none, 0, rfl, OwnTerm.none', BR.out⟩
  · rw [e]
    rw [h] at CT
    have h2 : (m : Int) > 400 := by omega
    clear e h h1
    go_enter Tryz.func7, Tryz.ntmps7
    have B := Below.refl w.heap.size w
    replace ha := ha.kept (belowA w (.cells #[.int .i64 0, .int .i64 0, .slice none 0 0] 28))
    replace hr := hr.kept (belowA w (.cells #[.int .i64 0, .int .i64 0, .slice none 0 0] 28))
    replace B := thenB B (belowA w (.cells #[.int .i64 0, .int .i64 0, .slice none 0 0] 28))
    have VR := V.new w [.int .i64 0, .int .i64 0, .slice none 0 0] 28
    obtain ⟨s_VR, f_VR, z_VR⟩ := VR.open
    have Bo := B
    go_wp2_with fail
    refine (CT.out _ ha).mono ?_
    rintro e w11 ⟨rfl, b11⟩
    clear s_VR f_VR z_VR
    have S11 := b11.size
    simp only [World.size_alloc] at S11
    replace VR := VR.kept b11
    replace ha := ha.kept b11
    replace hr := hr.kept b11
    replace B := thenB B b11
    clear b11
    obtain ⟨s_VR, f_VR, z_VR⟩ := VR.open
    have Bo := B
    clear s_VR f_VR z_VR
    have VF := Hid.mk (VR.filled [.int .i64 2, .int .i64 0, .slice none 0 0] rfl)
    have HT := Hid.mk VR.there
    have BR := belowCells B (show w.heap.size ≤ w.heap.size by (first | omega | (simp; done) | (simp; omega))) 0 [.int .i64 2, .int .i64 0, .slice none 0 0]
    replace BR := Hid.mk BR
    obtain ⟨s_VR, f_VR, z_VR⟩ := VR.open
    go_wp2_with (refine wpList_store_mid rfl 28 _ _ rfl (w.heap.size) 0 #[.int .i64 2, .int .i64 0, .slice none 0 0] rfl rfl HT.out (by kernel_rfl) (by kernel_rfl) ?_)
    refine bodyPost_ret (v := .agg #[.int .i64 2, .int .i64 0, .slice none 0 0]) (results_row Tryz.results7 _ _ (w.heap.size) [.int .i64 2, .int .i64 0, .slice none 0 0] _ rfl VF.out Tryz.underlying28 rfl (by kernel_rfl)) rfl ⟨none, 0, rfl, OwnTerm.none', BR.out⟩
  all_goals
    have CL0 := l7Decode_ok b m cb ds hb hm (by omega) 30 (by omega) 0 none 0 0 []
    have CL : Hid (∀ w : World, RdTerm w none [] → Rd .u8 w b ds → Calls Tryz.prog 24 #[.slice none 0 0, .slice b m cb, .int .i64 0, .int .i64 1] w (Reads w (dcd 30 [] ds 0))) := Hid.mk (fun w h1 h2 => CL0 w h1 rfl h0 (fun _ => rfl) h2 1 (by decide))
    clear CL0
    have h2 : (m : Int) ≤ 400 := by omega
  · have D := dcd_whole hb h1
    rw [hm] at D
    rcases D with ⟨_, D⟩ | ⟨t, D, _⟩
    case inr => rw [hw] at D; cases D
    rw [e]
    rw [h] at CT
    generalize dcd 30 [] ds 0 = DD at *
    obtain ⟨⟨dc, dk, dl⟩, de⟩ := DD
    unfold Reads at CL
    simp only at CL D ⊢
    obtain ⟨ll, hll⟩ : ∃ l, dl.length = l := ⟨_, rfl⟩
    rw [hll] at CL
    rcases D with D | ⟨rfl, rfl, t, C, h200⟩
    · have h3 : (de != (m : Int)) = true := by simp [D]
      clear e h h1 hw D hll
      go_enter Tryz.func7, Tryz.ntmps7
      have B := Below.refl w.heap.size w
      replace ha := ha.kept (belowA w (.cells #[.int .i64 0, .int .i64 0, .slice none 0 0] 28))
      replace hr := hr.kept (belowA w (.cells #[.int .i64 0, .int .i64 0, .slice none 0 0] 28))
      replace B := thenB B (belowA w (.cells #[.int .i64 0, .int .i64 0, .slice none 0 0] 28))
      have VR := V.new w [.int .i64 0, .int .i64 0, .slice none 0 0] 28
      obtain ⟨s_VR, f_VR, z_VR⟩ := VR.open
      have Bo := B
      go_wp2_with fail
      refine (CT.out _ ha).mono ?_
      rintro e w21 ⟨rfl, b21⟩
      clear s_VR f_VR z_VR
      have S21 := b21.size
      simp only [World.size_alloc] at S21
      replace VR := VR.kept b21
      replace ha := ha.kept b21
      replace hr := hr.kept b21
      replace B := thenB B b21
      clear b21
      obtain ⟨s_VR, f_VR, z_VR⟩ := VR.open
      have Bo := B
      go_wp2_with fail
      refine (CL.out _ (.inl rfl) hr).mono ?_
      rintro e w22 ⟨c, d, rfl, O, b22⟩
      clear s_VR f_VR z_VR
      have S22 := b22.size
      replace VR := VR.kept b22
      replace ha := ha.kept b22
      replace hr := hr.kept b22
      replace B := thenB B b22
      clear b22
      obtain ⟨s_VR, f_VR, z_VR⟩ := VR.open
      have Bo := B
      replace VR := VR.kept (belowA w22 (.cells #[.int .i64 dc, .int .i64 dk, .slice c ll d] 28))
      replace ha := ha.kept (belowA w22 (.cells #[.int .i64 dc, .int .i64 dk, .slice c ll d] 28))
      replace hr := hr.kept (belowA w22 (.cells #[.int .i64 dc, .int .i64 dk, .slice c ll d] 28))
      replace O := O.kept (belowA w22 (.cells #[.int .i64 dc, .int .i64 dk, .slice c ll d] 28))
      replace B := thenB B (belowA w22 (.cells #[.int .i64 dc, .int .i64 dk, .slice c ll d] 28))
      have VB := V.new w22 [.int .i64 dc, .int .i64 dk, .slice c ll d] 28
      clear s_VR f_VR z_VR
      obtain ⟨s_VR, f_VR, z_VR⟩ := VR.open
      obtain ⟨s_VB, f_VB, z_VB⟩ := VB.open
      have Bo := B
      go_wp2_with fail
      go_quiet (fail)
      clear s_VR f_VR z_VR s_VB f_VB z_VB
      have bq := belowN (Below.refl ((w22.alloc (.cells #[.int .i64 dc, .int .i64 dk, .slice c ll d] 28))).heap.size ((w22.alloc (.cells #[.int .i64 dc, .int .i64 dk, .slice c ll d] 28)))) nq
      replace VR := VR.kept bq
      replace VB := VB.kept bq
      replace ha := ha.kept bq
      replace hr := hr.kept bq
      replace O := O.kept bq
      replace B := thenB B bq
      clear bq
      generalize World.drewN (w22.alloc (.cells #[.int .i64 dc, .int .i64 dk, .slice c ll d] 28)) nq = wn at *
      obtain ⟨s_VR, f_VR, z_VR⟩ := VR.open
      obtain ⟨s_VB, f_VB, z_VB⟩ := VB.open
      have Bo := B
      clear s_VR f_VR z_VR s_VB f_VB z_VB
      have VF := Hid.mk (VR.filled [.int .i64 5, .int .i64 0, .slice none 0 0] rfl)
      have HT := Hid.mk VR.there
      have BR := belowCells B (show w.heap.size ≤ w.heap.size by (first | omega | (simp; done) | (simp; omega))) 0 [.int .i64 5, .int .i64 0, .slice none 0 0]
      replace BR := Hid.mk BR
      obtain ⟨s_VR, f_VR, z_VR⟩ := VR.open
      obtain ⟨s_VB, f_VB, z_VB⟩ := VB.open
      go_wp2_with (refine wpList_store_mid rfl 28 _ _ rfl (w.heap.size) 0 #[.int .i64 5, .int .i64 0, .slice none 0 0] rfl rfl HT.out (by kernel_rfl) (by kernel_rfl) ?_)
      refine bodyPost_ret (v := .agg #[.int .i64 5, .int .i64 0, .slice none 0 0]) (results_row Tryz.results7 _ _ (w.heap.size) [.int .i64 5, .int .i64 0, .slice none 0 0] _ rfl VF.out Tryz.underlying28 rfl (by kernel_rfl)) rfl ⟨none, 0, rfl, OwnTerm.none', BR.out⟩
    · clear e h h1 hw
      obtain ⟨C1, _, C2, C3, C4, _⟩ := C
      simp only at C1 C2 C3 C4
      obtain ⟨kn, rfl⟩ : ∃ j : Nat, dk = (j : Int) := ⟨dk.toNat, by omega⟩
      rw [Int.toNat_natCast] at C4
      have hkl : (kn : Int) < (ll : Int) := by omega
      have CS := Hid.mk (fun c d w h => l5Sizes_ok c ll d dl w h hll C1)
      have hsm := szL_at dl ll kn (by omega)
      rw [C4] at hsm
      have hsl := Hid.mk (szL_len dl ll)
      obtain ⟨S, hS⟩ : ∃ S, t.sz = S := ⟨_, rfl⟩
      rw [hS] at hsm h200
      replace hsm := Hid.mk hsm
      clear C1 C2 C3 C4 hS
      have h3 : ((m : Int) != (m : Int)) = false := by simp
      go_enter Tryz.func7, Tryz.ntmps7
      have B := Below.refl w.heap.size w
      replace ha := ha.kept (belowA w (.cells #[.int .i64 0, .int .i64 0, .slice none 0 0] 28))
      replace hr := hr.kept (belowA w (.cells #[.int .i64 0, .int .i64 0, .slice none 0 0] 28))
      replace B := thenB B (belowA w (.cells #[.int .i64 0, .int .i64 0, .slice none 0 0] 28))
      have VR := V.new w [.int .i64 0, .int .i64 0, .slice none 0 0] 28
      obtain ⟨s_VR, f_VR, z_VR⟩ := VR.open
      have Bo := B
      go_wp2_with fail
      refine (CT.out _ ha).mono ?_
      rintro e w41 ⟨rfl, b41⟩
      clear s_VR f_VR z_VR
      have S41 := b41.size
      simp only [World.size_alloc] at S41
      replace VR := VR.kept b41
      replace ha := ha.kept b41
      replace hr := hr.kept b41
      replace B := thenB B b41
      clear b41
      obtain ⟨s_VR, f_VR, z_VR⟩ := VR.open
      have Bo := B
      go_wp2_with fail
      refine (CL.out _ (.inl rfl) hr).mono ?_
      rintro e w42 ⟨c, d, rfl, O, b42⟩
      clear s_VR f_VR z_VR
      have S42 := b42.size
      replace VR := VR.kept b42
      replace ha := ha.kept b42
      replace hr := hr.kept b42
      replace B := thenB B b42
      clear b42
      obtain ⟨s_VR, f_VR, z_VR⟩ := VR.open
      have Bo := B
      replace VR := VR.kept (belowA w42 (.cells #[.int .i64 0, .int .i64 (kn : Int), .slice c ll d] 28))
      replace ha := ha.kept (belowA w42 (.cells #[.int .i64 0, .int .i64 (kn : Int), .slice c ll d] 28))
      replace hr := hr.kept (belowA w42 (.cells #[.int .i64 0, .int .i64 (kn : Int), .slice c ll d] 28))
      replace O := O.kept (belowA w42 (.cells #[.int .i64 0, .int .i64 (kn : Int), .slice c ll d] 28))
      replace B := thenB B (belowA w42 (.cells #[.int .i64 0, .int .i64 (kn : Int), .slice c ll d] 28))
      have VB := V.new w42 [.int .i64 0, .int .i64 (kn : Int), .slice c ll d] 28
      clear s_VR f_VR z_VR
      obtain ⟨s_VR, f_VR, z_VR⟩ := VR.open
      obtain ⟨s_VB, f_VB, z_VB⟩ := VB.open
      have Bo := B
      clear s_VR f_VR z_VR s_VB f_VB z_VB
      have K : ∀ w' : World, Below (w42.alloc (.cells #[.int .i64 0, .int .i64 (kn : Int), .slice c ll d] 28)).heap.size (w42.alloc (.cells #[.int .i64 0, .int .i64 (kn : Int), .slice c ll d] 28)) w' → (w'.cell? ⟨w42.heap.size, 0, none⟩ = some (.int .i64 0) ∧ w'.cell? ⟨w42.heap.size, 1, none⟩ = some (.int .i64 (kn : Int)) ∧ w'.cell? ⟨w42.heap.size, 2, none⟩ = some (.slice c ll d)) := fun w' h => ⟨(VB.kept h).2.1 0 (by simp), (VB.kept h).2.1 1 (by simp), (VB.kept h).2.1 2 (by simp)⟩
      have K := Hid.mk K
      go_wp2_with fail
      refine wp_region_held_drew (S := (fun w' => w'.cell? ⟨w42.heap.size, 0, none⟩ = some (.int .i64 0) ∧ w'.cell? ⟨w42.heap.size, 1, none⟩ = some (.int .i64 (kn : Int)) ∧ w'.cell? ⟨w42.heap.size, 2, none⟩ = some (.slice c ll d))) (by kernel_rfl) (K.out _ (Below.refl _ _).drew) (fun hHeld => ?_)
      refine wpAnyH_take (i := 0) (oi := _) (v := ?vz41u1) rfl (by kernel_rfl) (by kernel_rfl) (by kernel_rfl) (fun _ _ _ h => h) (Or.inl ⟨by kernel_rfl, ?hyz41u1⟩) hHeld ?restz41u1
      case hyz41u1 => (intro w hSw; (try dsimp only at hSw); go_simp; first | done | with_reducible rfl)
      try simp only [Act.put, List.getElem_toArray, List.getElem_cons_zero, List.setIfInBounds_toArray, List.set_cons_zero, List.set_cons_succ]
      refine wpAnyH_take (i := 1) (oi := _) (v := ?vz41u2) rfl (by kernel_rfl) (by kernel_rfl) (by kernel_rfl) (fun _ _ _ h => h) (Or.inl ⟨by kernel_rfl, ?hyz41u2⟩) hHeld ?restz41u2
      case hyz41u2 => (intro w hSw; (try dsimp only at hSw); go_simp; first | done | with_reducible rfl)
      try simp only [Act.put, List.getElem_toArray, List.getElem_cons_zero, List.getElem_cons_succ, List.setIfInBounds_toArray, List.set_cons_zero, List.set_cons_succ]
      refine wpAnyH_take (i := 2) (oi := _) (v := ?vz41u3) rfl (by kernel_rfl) (by kernel_rfl) (by kernel_rfl) (fun _ _ _ h => h) (Or.inl ⟨by kernel_rfl, ?hyz41u3⟩) hHeld ?restz41u3
      case hyz41u3 => (intro w hSw; (try dsimp only at hSw); go_simp; first | done | with_reducible rfl)
      try simp only [Act.put, List.getElem_toArray, List.getElem_cons_zero, List.getElem_cons_succ, List.setIfInBounds_toArray, List.set_cons_zero, List.set_cons_succ]
      refine wpAnyH_take (i := 3) (oi := _) (v := ?vz41u4) rfl (by kernel_rfl) (by kernel_rfl) (by kernel_rfl) (fun _ _ _ h => h) (Or.inl ⟨by kernel_rfl, ?hyz41u4⟩) hHeld ?restz41u4
      case hyz41u4 => (intro w hSw; (try dsimp only at hSw); go_simp; first | done | with_reducible rfl)
      try simp only [Act.put, List.getElem_toArray, List.getElem_cons_zero, List.getElem_cons_succ, List.setIfInBounds_toArray, List.set_cons_zero, List.set_cons_succ]
      refine wpAnyH_take (i := 4) (oi := _) (v := ?vz41u5) rfl (by kernel_rfl) (by kernel_rfl) (by kernel_rfl) (fun _ _ _ h => h) (Or.inl ⟨by kernel_rfl, ?hyz41u5⟩) hHeld ?restz41u5
      case hyz41u5 => (intro w hSw; (try dsimp only at hSw); go_simp; first | done | with_reducible rfl)
      try simp only [Act.put, List.getElem_toArray, List.getElem_cons_zero, List.getElem_cons_succ, List.setIfInBounds_toArray, List.set_cons_zero, List.set_cons_succ]
      refine wpAnyH_take (i := 5) (oi := _) (v := ?vz41u6) rfl (by kernel_rfl) (by kernel_rfl) (by kernel_rfl) (fun _ _ _ h => h) (Or.inl ⟨by kernel_rfl, ?hyz41u6⟩) hHeld ?restz41u6
      case hyz41u6 => (intro w hSw; (try dsimp only at hSw); go_simp; first | done | with_reducible rfl)
      try simp only [Act.put, List.getElem_toArray, List.getElem_cons_zero, List.getElem_cons_succ, List.setIfInBounds_toArray, List.set_cons_zero, List.set_cons_succ]
      refine wpAnyH_take (i := 6) (oi := _) (v := ?vz41u7) rfl (by kernel_rfl) (by kernel_rfl) (by kernel_rfl) (fun _ _ _ h => h) (Or.inl ⟨by kernel_rfl, ?hyz41u7⟩) hHeld ?restz41u7
      case hyz41u7 => (intro w hSw; (try dsimp only at hSw); go_simp; first | done | with_reducible rfl)
      try simp only [Act.put, List.getElem_toArray, List.getElem_cons_zero, List.getElem_cons_succ, List.setIfInBounds_toArray, List.set_cons_zero, List.set_cons_succ]
      refine wpAnyH_take (i := 7) (oi := _) (v := ?vz41u8) rfl (by kernel_rfl) (by kernel_rfl) (by kernel_rfl) (fun _ _ _ h => h) (Or.inl ⟨by kernel_rfl, ?hyz41u8⟩) hHeld ?restz41u8
      case hyz41u8 => (intro w hSw; (try dsimp only at hSw); go_simp; first | done | with_reducible rfl)
      try simp only [Act.put, List.getElem_toArray, List.getElem_cons_zero, List.getElem_cons_succ, List.setIfInBounds_toArray, List.set_cons_zero, List.set_cons_succ]
      refine wpAnyH_take (i := 8) (oi := _) (v := ?vz41u9) rfl (by kernel_rfl) (by kernel_rfl) (by kernel_rfl) (fun _ _ _ h => h) (Or.inl ⟨by kernel_rfl, ?hyz41u9⟩) hHeld ?restz41u9
      case hyz41u9 => (intro w hSw; (try dsimp only at hSw); go_simp; first | done | with_reducible rfl)
      try simp only [Act.put, List.getElem_toArray, List.getElem_cons_zero, List.getElem_cons_succ, List.setIfInBounds_toArray, List.set_cons_zero, List.set_cons_succ]
      refine wpAnyH_take (i := 9) (oi := _) (v := ?vz41u10) rfl (by kernel_rfl) (by kernel_rfl) (by kernel_rfl) (fun _ _ _ h => h) (Or.inl ⟨by kernel_rfl, ?hyz41u10⟩) hHeld ?restz41u10
      case hyz41u10 => (intro w hSw; (try dsimp only at hSw); go_simp; first | done | with_reducible rfl)
      try simp only [Act.put, List.getElem_toArray, List.getElem_cons_zero, List.getElem_cons_succ, List.setIfInBounds_toArray, List.set_cons_zero, List.set_cons_succ]
      refine wpAnyH_take (i := 10) (oi := _) (v := ?vz41u11) rfl (by kernel_rfl) (by kernel_rfl) (by kernel_rfl) (fun _ _ _ h => h) (Or.inl ⟨by kernel_rfl, ?hyz41u11⟩) hHeld ?restz41u11
      case hyz41u11 => (intro w hSw; (try dsimp only at hSw); go_simp; first | done | with_reducible rfl)
      try simp only [Act.put, List.getElem_toArray, List.getElem_cons_zero, List.getElem_cons_succ, List.setIfInBounds_toArray, List.set_cons_zero, List.set_cons_succ]
      refine wpAnyH_take (i := 11) (oi := _) (v := ?vz41u12) rfl (by kernel_rfl) (by kernel_rfl) (by kernel_rfl) (fun _ _ _ h => h) (Or.inl ⟨by kernel_rfl, ?hyz41u12⟩) hHeld ?restz41u12
      case hyz41u12 => (intro w hSw; (try dsimp only at hSw); go_simp; first | done | with_reducible rfl)
      try simp only [Act.put, List.getElem_toArray, List.getElem_cons_zero, List.getElem_cons_succ, List.setIfInBounds_toArray, List.set_cons_zero, List.set_cons_succ]
      refine wpAnyH_take (i := 13) (oi := _) (v := ?vz41u13) rfl (by kernel_rfl) (by kernel_rfl) (by kernel_rfl) (fun _ _ _ h => h) (Or.inl ⟨by kernel_rfl, ?hyz41u13⟩) hHeld ?restz41u13
      case hyz41u13 => (intro w hSw; (try dsimp only at hSw); go_simp; first | done | with_reducible rfl)
      try simp only [Act.put, List.getElem_toArray, List.getElem_cons_zero, List.getElem_cons_succ, List.setIfInBounds_toArray, List.set_cons_zero, List.set_cons_succ]
      refine wpAnyH_take (i := 14) (oi := _) (v := ?vz41u14) rfl (by kernel_rfl) (by kernel_rfl) (by kernel_rfl) (fun _ _ _ h => h) (Or.inl ⟨by kernel_rfl, ?hyz41u14⟩) hHeld ?restz41u14
      case hyz41u14 => (intro w hSw; (try dsimp only at hSw); go_simp; first | done | with_reducible rfl)
      try simp only [Act.put, List.getElem_toArray, List.getElem_cons_zero, List.getElem_cons_succ, List.setIfInBounds_toArray, List.set_cons_zero, List.set_cons_succ]
      refine wpAnyH_ready (rs := [12]) (by kernel_rfl) (by simp) ?_
      refine AllReadyH.cons (o := _) rfl (fun K0 hK0 => ?_) AllReadyH.nil
      go_simp
      go_at_call 25
      refine (CS.out _ _ _ (O.kept (Below.refl _ _).drew).rd).mono ?_
      rintro e wz41v15 ⟨c7, d7, rfl, O7, bz41v15⟩
      refine hK0.out _ _ (K.out _ (thenB (Below.refl _ _).drew bz41v15)) (fun hHeld => ?_)
      clear hK0 K0
      try simp only [Act.put, List.getElem_toArray, List.getElem_cons_zero, List.getElem_cons_succ, List.setIfInBounds_toArray, List.set_cons_zero, List.set_cons_succ]
      have h7 := O7.rd
      rcases h7 with h7 | ⟨b7, o7, rfl, h7⟩
      · have := hsl.out; rw [h7] at this; simp at this; omega
      have p7 := h7 kn (by have := hsl.out; omega)
      rw [hsm.out] at p7
      refine wpAnyH_take (i := 15) (oi := _) (v := ?vz41u16) rfl (by kernel_rfl) (by kernel_rfl) (by kernel_rfl) (fun _ _ _ h => h) (Or.inl ⟨by kernel_rfl, ?hyz41u16⟩) hHeld ?restz41u16
      case hyz41u16 => (intro w hSw; (try dsimp only at hSw); go_simp; first | done | with_reducible rfl)
      try simp only [Act.put, List.getElem_toArray, List.getElem_cons_zero, List.getElem_cons_succ, List.setIfInBounds_toArray, List.set_cons_zero, List.set_cons_succ]
      refine wpAnyH_ready (rs := [16]) (by kernel_rfl) (by simp) ?_
      refine AllReadyH.cons (o := _) rfl (fun K0 hK0 => ?_) AllReadyH.nil
      go_simp
      refine hK0.out _ _ (K.out _ (thenB (Below.refl _ _).drew bz41v15)) (fun hHeld => ?_)
      clear hK0 K0
      try simp only [Act.put, List.getElem_toArray, List.getElem_cons_zero, List.getElem_cons_succ, List.setIfInBounds_toArray, List.set_cons_zero, List.set_cons_succ]
      refine wpAnyH_take (i := 17) (oi := _) (v := ?vz41u17) rfl (by kernel_rfl) (by kernel_rfl) (by kernel_rfl) (fun _ _ _ h => h) (Or.inl ⟨by kernel_rfl, ?hyz41u17⟩) hHeld ?restz41u17
      case hyz41u17 => (intro w hSw; (try dsimp only at hSw); go_simp; first | done | with_reducible rfl)
      try simp only [Act.put, List.getElem_toArray, List.getElem_cons_zero, List.getElem_cons_succ, List.setIfInBounds_toArray, List.set_cons_zero, List.set_cons_succ]
      refine wpAnyH_take (i := 18) (oi := _) (v := ?vz41u18) rfl (by kernel_rfl) (by kernel_rfl) (by kernel_rfl) (fun _ _ _ h => h) (Or.inl ⟨by kernel_rfl, ?hyz41u18⟩) hHeld ?restz41u18
      case hyz41u18 => (intro w hSw; (try dsimp only at hSw); go_simp; first | done | with_reducible rfl)
      try simp only [Act.put, List.getElem_toArray, List.getElem_cons_zero, List.getElem_cons_succ, List.setIfInBounds_toArray, List.set_cons_zero, List.set_cons_succ]
      refine wpAnyH_done (by kernel_rfl) ?_ _
      clear K hHeld
      replace VR := VR.kept (thenB (Below.refl _ _).drew bz41v15)
      replace VB := VB.kept (thenB (Below.refl _ _).drew bz41v15)
      replace ha := ha.kept (thenB (Below.refl _ _).drew bz41v15)
      replace hr := hr.kept (thenB (Below.refl _ _).drew bz41v15)
      replace O := O.kept (thenB (Below.refl _ _).drew bz41v15)
      replace B := thenB B (thenB (Below.refl _ _).drew bz41v15)
      have Sz41 := ((thenB (Below.refl _ _).drew bz41v15)).size
      clear bz41v15
      obtain ⟨s_VR, f_VR, z_VR⟩ := VR.open
      obtain ⟨s_VB, f_VB, z_VB⟩ := VB.open
      have Bo := B
      clear O7 h7 p7
      clear s_VR f_VR z_VR s_VB f_VB z_VB
      have VF := Hid.mk (VR.filled [.int .i64 5, .int .i64 0, .slice none 0 0] rfl)
      have HT := Hid.mk VR.there
      have BR := belowCells B (show w.heap.size ≤ w.heap.size by (first | omega | (simp; done) | (simp; omega))) 0 [.int .i64 5, .int .i64 0, .slice none 0 0]
      replace BR := Hid.mk BR
      obtain ⟨s_VR, f_VR, z_VR⟩ := VR.open
      obtain ⟨s_VB, f_VB, z_VB⟩ := VB.open
      go_wp2_with (refine wpList_store_mid rfl 28 _ _ rfl (w.heap.size) 0 #[.int .i64 5, .int .i64 0, .slice none 0 0] rfl rfl HT.out (by kernel_rfl) (by kernel_rfl) ?_)
      refine bodyPost_ret (v := .agg #[.int .i64 5, .int .i64 0, .slice none 0 0]) (results_row Tryz.results7 _ _ (w.heap.size) [.int .i64 5, .int .i64 0, .slice none 0 0] _ rfl VF.out Tryz.underlying28 rfl (by kernel_rfl)) rfl ⟨none, 0, rfl, OwnTerm.none', BR.out⟩
  · have D := dcd_whole hb h1
    have D2 := dcd_puts hb h hw
    rw [hm] at D
    rcases D with ⟨D, _⟩ | ⟨t', D, D3, D4, C, h200⟩
    · rw [hw] at D; cases D
    have : t' = t := by rw [hw] at D; simp only [Option.some.injEq] at D; exact D.symm
    subst this
    have CM0 := l7Decode_ok b m cb ds hb hm (by omega) 30 (by omega) 0 a n ca xs
    have CM : Hid (∀ w : World, RdTerm w a xs → Rd .u8 w b ds → Calls Tryz.prog 24 #[.slice a n ca, .slice b m cb, .int .i64 0, .int .i64 1] w (Reads w (dcd 30 xs ds 0))) := Hid.mk (fun w h1 h2 => CM0 w h1 hn h hcn h2 1 (by decide))
    rw [e]
    rw [h] at CT
    unfold Reads at CM CL
    rw [D2] at CM
    generalize (dcd 30 xs ds 0).2 = pe at *
    generalize ptr xs t' = P at *
    obtain ⟨pc, pk, pl⟩ := P
    simp only at CM ⊢
    obtain ⟨l8, hl8⟩ : ∃ l, pl.length = l := ⟨_, rfl⟩
    rw [hl8] at CM ⊢
    generalize dcd 30 [] ds 0 = DD at *
    obtain ⟨⟨dc, dk, dl⟩, de⟩ := DD
    simp only at CL D3 D4 C
    subst D3 D4
    obtain ⟨ll, hll⟩ : ∃ l, dl.length = l := ⟨_, rfl⟩
    rw [hll] at CL
    clear e h h1 hw D D2 CM0
    obtain ⟨C1, _, C2, C3, C4, _⟩ := C
    simp only at C1 C2 C3 C4
    obtain ⟨kn, rfl⟩ : ∃ j : Nat, dk = (j : Int) := ⟨dk.toNat, by omega⟩
    rw [Int.toNat_natCast] at C4
    have hkl : (kn : Int) < (ll : Int) := by omega
    have CS := Hid.mk (fun c d w h => l5Sizes_ok c ll d dl w h hll C1)
    have hsm := szL_at dl ll kn (by omega)
    rw [C4] at hsm
    have hsl := Hid.mk (szL_len dl ll)
    obtain ⟨S, hS⟩ : ∃ S, t'.sz = S := ⟨_, rfl⟩
    rw [hS] at hsm h200
    replace hsm := Hid.mk hsm
    clear C1 C2 C3 C4 hS
    have h3 : ((m : Int) != (m : Int)) = false := by simp
    go_enter Tryz.func7, Tryz.ntmps7
    have B := Below.refl w.heap.size w
    replace ha := ha.kept (belowA w (.cells #[.int .i64 0, .int .i64 0, .slice none 0 0] 28))
    replace hr := hr.kept (belowA w (.cells #[.int .i64 0, .int .i64 0, .slice none 0 0] 28))
    replace B := thenB B (belowA w (.cells #[.int .i64 0, .int .i64 0, .slice none 0 0] 28))
    have VR := V.new w [.int .i64 0, .int .i64 0, .slice none 0 0] 28
    obtain ⟨s_VR, f_VR, z_VR⟩ := VR.open
    have Bo := B
    go_wp2_with fail
    refine (CT.out _ ha).mono ?_
    rintro e w61 ⟨rfl, b61⟩
    clear s_VR f_VR z_VR
    have S61 := b61.size
    simp only [World.size_alloc] at S61
    replace VR := VR.kept b61
    replace ha := ha.kept b61
    replace hr := hr.kept b61
    replace B := thenB B b61
    clear b61
    obtain ⟨s_VR, f_VR, z_VR⟩ := VR.open
    have Bo := B
    go_wp2_with fail
    refine (CL.out _ (.inl rfl) hr).mono ?_
    rintro e w62 ⟨c, d, rfl, O, b62⟩
    clear s_VR f_VR z_VR
    have S62 := b62.size
    replace VR := VR.kept b62
    replace ha := ha.kept b62
    replace hr := hr.kept b62
    replace B := thenB B b62
    clear b62
    obtain ⟨s_VR, f_VR, z_VR⟩ := VR.open
    have Bo := B
    replace VR := VR.kept (belowA w62 (.cells #[.int .i64 0, .int .i64 (kn : Int), .slice c ll d] 28))
    replace ha := ha.kept (belowA w62 (.cells #[.int .i64 0, .int .i64 (kn : Int), .slice c ll d] 28))
    replace hr := hr.kept (belowA w62 (.cells #[.int .i64 0, .int .i64 (kn : Int), .slice c ll d] 28))
    replace O := O.kept (belowA w62 (.cells #[.int .i64 0, .int .i64 (kn : Int), .slice c ll d] 28))
    replace B := thenB B (belowA w62 (.cells #[.int .i64 0, .int .i64 (kn : Int), .slice c ll d] 28))
    have VB := V.new w62 [.int .i64 0, .int .i64 (kn : Int), .slice c ll d] 28
    clear s_VR f_VR z_VR
    obtain ⟨s_VR, f_VR, z_VR⟩ := VR.open
    obtain ⟨s_VB, f_VB, z_VB⟩ := VB.open
    have Bo := B
    clear s_VR f_VR z_VR s_VB f_VB z_VB
    have K : ∀ w' : World, Below (w62.alloc (.cells #[.int .i64 0, .int .i64 (kn : Int), .slice c ll d] 28)).heap.size (w62.alloc (.cells #[.int .i64 0, .int .i64 (kn : Int), .slice c ll d] 28)) w' → (w'.cell? ⟨w62.heap.size, 0, none⟩ = some (.int .i64 0) ∧ w'.cell? ⟨w62.heap.size, 1, none⟩ = some (.int .i64 (kn : Int)) ∧ w'.cell? ⟨w62.heap.size, 2, none⟩ = some (.slice c ll d)) := fun w' h => ⟨(VB.kept h).2.1 0 (by simp), (VB.kept h).2.1 1 (by simp), (VB.kept h).2.1 2 (by simp)⟩
    have K := Hid.mk K
    go_wp2_with fail
    refine wp_region_held_drew (S := (fun w' => w'.cell? ⟨w62.heap.size, 0, none⟩ = some (.int .i64 0) ∧ w'.cell? ⟨w62.heap.size, 1, none⟩ = some (.int .i64 (kn : Int)) ∧ w'.cell? ⟨w62.heap.size, 2, none⟩ = some (.slice c ll d))) (by kernel_rfl) (K.out _ (Below.refl _ _).drew) (fun hHeld => ?_)
    refine wpAnyH_take (i := 0) (oi := _) (v := ?vz61u1) rfl (by kernel_rfl) (by kernel_rfl) (by kernel_rfl) (fun _ _ _ h => h) (Or.inl ⟨by kernel_rfl, ?hyz61u1⟩) hHeld ?restz61u1
    case hyz61u1 => (intro w hSw; (try dsimp only at hSw); go_simp; first | done | with_reducible rfl)
    try simp only [Act.put, List.getElem_toArray, List.getElem_cons_zero, List.setIfInBounds_toArray, List.set_cons_zero, List.set_cons_succ]
    refine wpAnyH_take (i := 1) (oi := _) (v := ?vz61u2) rfl (by kernel_rfl) (by kernel_rfl) (by kernel_rfl) (fun _ _ _ h => h) (Or.inl ⟨by kernel_rfl, ?hyz61u2⟩) hHeld ?restz61u2
    case hyz61u2 => (intro w hSw; (try dsimp only at hSw); go_simp; first | done | with_reducible rfl)
    try simp only [Act.put, List.getElem_toArray, List.getElem_cons_zero, List.getElem_cons_succ, List.setIfInBounds_toArray, List.set_cons_zero, List.set_cons_succ]
    refine wpAnyH_take (i := 2) (oi := _) (v := ?vz61u3) rfl (by kernel_rfl) (by kernel_rfl) (by kernel_rfl) (fun _ _ _ h => h) (Or.inl ⟨by kernel_rfl, ?hyz61u3⟩) hHeld ?restz61u3
    case hyz61u3 => (intro w hSw; (try dsimp only at hSw); go_simp; first | done | with_reducible rfl)
    try simp only [Act.put, List.getElem_toArray, List.getElem_cons_zero, List.getElem_cons_succ, List.setIfInBounds_toArray, List.set_cons_zero, List.set_cons_succ]
    refine wpAnyH_take (i := 3) (oi := _) (v := ?vz61u4) rfl (by kernel_rfl) (by kernel_rfl) (by kernel_rfl) (fun _ _ _ h => h) (Or.inl ⟨by kernel_rfl, ?hyz61u4⟩) hHeld ?restz61u4
    case hyz61u4 => (intro w hSw; (try dsimp only at hSw); go_simp; first | done | with_reducible rfl)
    try simp only [Act.put, List.getElem_toArray, List.getElem_cons_zero, List.getElem_cons_succ, List.setIfInBounds_toArray, List.set_cons_zero, List.set_cons_succ]
    refine wpAnyH_take (i := 4) (oi := _) (v := ?vz61u5) rfl (by kernel_rfl) (by kernel_rfl) (by kernel_rfl) (fun _ _ _ h => h) (Or.inl ⟨by kernel_rfl, ?hyz61u5⟩) hHeld ?restz61u5
    case hyz61u5 => (intro w hSw; (try dsimp only at hSw); go_simp; first | done | with_reducible rfl)
    try simp only [Act.put, List.getElem_toArray, List.getElem_cons_zero, List.getElem_cons_succ, List.setIfInBounds_toArray, List.set_cons_zero, List.set_cons_succ]
    refine wpAnyH_take (i := 5) (oi := _) (v := ?vz61u6) rfl (by kernel_rfl) (by kernel_rfl) (by kernel_rfl) (fun _ _ _ h => h) (Or.inl ⟨by kernel_rfl, ?hyz61u6⟩) hHeld ?restz61u6
    case hyz61u6 => (intro w hSw; (try dsimp only at hSw); go_simp; first | done | with_reducible rfl)
    try simp only [Act.put, List.getElem_toArray, List.getElem_cons_zero, List.getElem_cons_succ, List.setIfInBounds_toArray, List.set_cons_zero, List.set_cons_succ]
    refine wpAnyH_take (i := 6) (oi := _) (v := ?vz61u7) rfl (by kernel_rfl) (by kernel_rfl) (by kernel_rfl) (fun _ _ _ h => h) (Or.inl ⟨by kernel_rfl, ?hyz61u7⟩) hHeld ?restz61u7
    case hyz61u7 => (intro w hSw; (try dsimp only at hSw); go_simp; first | done | with_reducible rfl)
    try simp only [Act.put, List.getElem_toArray, List.getElem_cons_zero, List.getElem_cons_succ, List.setIfInBounds_toArray, List.set_cons_zero, List.set_cons_succ]
    refine wpAnyH_take (i := 7) (oi := _) (v := ?vz61u8) rfl (by kernel_rfl) (by kernel_rfl) (by kernel_rfl) (fun _ _ _ h => h) (Or.inl ⟨by kernel_rfl, ?hyz61u8⟩) hHeld ?restz61u8
    case hyz61u8 => (intro w hSw; (try dsimp only at hSw); go_simp; first | done | with_reducible rfl)
    try simp only [Act.put, List.getElem_toArray, List.getElem_cons_zero, List.getElem_cons_succ, List.setIfInBounds_toArray, List.set_cons_zero, List.set_cons_succ]
    refine wpAnyH_take (i := 8) (oi := _) (v := ?vz61u9) rfl (by kernel_rfl) (by kernel_rfl) (by kernel_rfl) (fun _ _ _ h => h) (Or.inl ⟨by kernel_rfl, ?hyz61u9⟩) hHeld ?restz61u9
    case hyz61u9 => (intro w hSw; (try dsimp only at hSw); go_simp; first | done | with_reducible rfl)
    try simp only [Act.put, List.getElem_toArray, List.getElem_cons_zero, List.getElem_cons_succ, List.setIfInBounds_toArray, List.set_cons_zero, List.set_cons_succ]
    refine wpAnyH_take (i := 9) (oi := _) (v := ?vz61u10) rfl (by kernel_rfl) (by kernel_rfl) (by kernel_rfl) (fun _ _ _ h => h) (Or.inl ⟨by kernel_rfl, ?hyz61u10⟩) hHeld ?restz61u10
    case hyz61u10 => (intro w hSw; (try dsimp only at hSw); go_simp; first | done | with_reducible rfl)
    try simp only [Act.put, List.getElem_toArray, List.getElem_cons_zero, List.getElem_cons_succ, List.setIfInBounds_toArray, List.set_cons_zero, List.set_cons_succ]
    refine wpAnyH_take (i := 10) (oi := _) (v := ?vz61u11) rfl (by kernel_rfl) (by kernel_rfl) (by kernel_rfl) (fun _ _ _ h => h) (Or.inl ⟨by kernel_rfl, ?hyz61u11⟩) hHeld ?restz61u11
    case hyz61u11 => (intro w hSw; (try dsimp only at hSw); go_simp; first | done | with_reducible rfl)
    try simp only [Act.put, List.getElem_toArray, List.getElem_cons_zero, List.getElem_cons_succ, List.setIfInBounds_toArray, List.set_cons_zero, List.set_cons_succ]
    refine wpAnyH_take (i := 11) (oi := _) (v := ?vz61u12) rfl (by kernel_rfl) (by kernel_rfl) (by kernel_rfl) (fun _ _ _ h => h) (Or.inl ⟨by kernel_rfl, ?hyz61u12⟩) hHeld ?restz61u12
    case hyz61u12 => (intro w hSw; (try dsimp only at hSw); go_simp; first | done | with_reducible rfl)
    try simp only [Act.put, List.getElem_toArray, List.getElem_cons_zero, List.getElem_cons_succ, List.setIfInBounds_toArray, List.set_cons_zero, List.set_cons_succ]
    refine wpAnyH_take (i := 13) (oi := _) (v := ?vz61u13) rfl (by kernel_rfl) (by kernel_rfl) (by kernel_rfl) (fun _ _ _ h => h) (Or.inl ⟨by kernel_rfl, ?hyz61u13⟩) hHeld ?restz61u13
    case hyz61u13 => (intro w hSw; (try dsimp only at hSw); go_simp; first | done | with_reducible rfl)
    try simp only [Act.put, List.getElem_toArray, List.getElem_cons_zero, List.getElem_cons_succ, List.setIfInBounds_toArray, List.set_cons_zero, List.set_cons_succ]
    refine wpAnyH_take (i := 14) (oi := _) (v := ?vz61u14) rfl (by kernel_rfl) (by kernel_rfl) (by kernel_rfl) (fun _ _ _ h => h) (Or.inl ⟨by kernel_rfl, ?hyz61u14⟩) hHeld ?restz61u14
    case hyz61u14 => (intro w hSw; (try dsimp only at hSw); go_simp; first | done | with_reducible rfl)
    try simp only [Act.put, List.getElem_toArray, List.getElem_cons_zero, List.getElem_cons_succ, List.setIfInBounds_toArray, List.set_cons_zero, List.set_cons_succ]
    refine wpAnyH_ready (rs := [12]) (by kernel_rfl) (by simp) ?_
    refine AllReadyH.cons (o := _) rfl (fun K0 hK0 => ?_) AllReadyH.nil
    go_simp
    go_at_call 25
    refine (CS.out _ _ _ (O.kept (Below.refl _ _).drew).rd).mono ?_
    rintro e wz61v15 ⟨c7, d7, rfl, O7, bz61v15⟩
    refine hK0.out _ _ (K.out _ (thenB (Below.refl _ _).drew bz61v15)) (fun hHeld => ?_)
    clear hK0 K0
    try simp only [Act.put, List.getElem_toArray, List.getElem_cons_zero, List.getElem_cons_succ, List.setIfInBounds_toArray, List.set_cons_zero, List.set_cons_succ]
    have h7 := O7.rd
    rcases h7 with h7 | ⟨b7, o7, rfl, h7⟩
    · have := hsl.out; rw [h7] at this; simp at this; omega
    have p7 := h7 kn (by have := hsl.out; omega)
    rw [hsm.out] at p7
    refine wpAnyH_take (i := 15) (oi := _) (v := ?vz61u16) rfl (by kernel_rfl) (by kernel_rfl) (by kernel_rfl) (fun _ _ _ h => h) (Or.inl ⟨by kernel_rfl, ?hyz61u16⟩) hHeld ?restz61u16
    case hyz61u16 => (intro w hSw; (try dsimp only at hSw); go_simp; first | done | with_reducible rfl)
    try simp only [Act.put, List.getElem_toArray, List.getElem_cons_zero, List.getElem_cons_succ, List.setIfInBounds_toArray, List.set_cons_zero, List.set_cons_succ]
    refine wpAnyH_ready (rs := [16]) (by kernel_rfl) (by simp) ?_
    refine AllReadyH.cons (o := _) rfl (fun K0 hK0 => ?_) AllReadyH.nil
    go_simp
    refine hK0.out _ _ (K.out _ (thenB (Below.refl _ _).drew bz61v15)) (fun hHeld => ?_)
    clear hK0 K0
    try simp only [Act.put, List.getElem_toArray, List.getElem_cons_zero, List.getElem_cons_succ, List.setIfInBounds_toArray, List.set_cons_zero, List.set_cons_succ]
    refine wpAnyH_take (i := 17) (oi := _) (v := ?vz61u17) rfl (by kernel_rfl) (by kernel_rfl) (by kernel_rfl) (fun _ _ _ h => h) (Or.inl ⟨by kernel_rfl, ?hyz61u17⟩) hHeld ?restz61u17
    case hyz61u17 => (intro w hSw; (try dsimp only at hSw); go_simp; first | done | with_reducible rfl)
    try simp only [Act.put, List.getElem_toArray, List.getElem_cons_zero, List.getElem_cons_succ, List.setIfInBounds_toArray, List.set_cons_zero, List.set_cons_succ]
    refine wpAnyH_take (i := 18) (oi := _) (v := ?vz61u18) rfl (by kernel_rfl) (by kernel_rfl) (by kernel_rfl) (fun _ _ _ h => h) (Or.inl ⟨by kernel_rfl, ?hyz61u18⟩) hHeld ?restz61u18
    case hyz61u18 => (intro w hSw; (try dsimp only at hSw); go_simp; first | done | with_reducible rfl)
    try simp only [Act.put, List.getElem_toArray, List.getElem_cons_zero, List.getElem_cons_succ, List.setIfInBounds_toArray, List.set_cons_zero, List.set_cons_succ]
    refine wpAnyH_done (by kernel_rfl) ?_ _
    clear K hHeld
    replace VR := VR.kept (thenB (Below.refl _ _).drew bz61v15)
    replace VB := VB.kept (thenB (Below.refl _ _).drew bz61v15)
    replace ha := ha.kept (thenB (Below.refl _ _).drew bz61v15)
    replace hr := hr.kept (thenB (Below.refl _ _).drew bz61v15)
    replace O := O.kept (thenB (Below.refl _ _).drew bz61v15)
    replace B := thenB B (thenB (Below.refl _ _).drew bz61v15)
    have Sz61 := ((thenB (Below.refl _ _).drew bz61v15)).size
    clear bz61v15
    obtain ⟨s_VR, f_VR, z_VR⟩ := VR.open
    obtain ⟨s_VB, f_VB, z_VB⟩ := VB.open
    have Bo := B
    clear O7 h7 p7
    have hVBz := Hid.mk VB.1
    have hVRz := Hid.mk VR.1
    go_wp2_with fail
    refine (CM.out _ ha hr).mono ?_
    rintro e w63 ⟨c8, d8, rfl, O8, b63⟩
    clear s_VR f_VR z_VR s_VB f_VB z_VB
    have S63 := b63.size
    replace VR := VR.kept b63
    replace VB := VB.kept b63
    replace ha := ha.kept b63
    replace hr := hr.kept b63
    replace B := thenB B b63
    clear b63
    obtain ⟨s_VR, f_VR, z_VR⟩ := VR.open
    obtain ⟨s_VB, f_VB, z_VB⟩ := VB.open
    have Bo := B
    clear s_VR f_VR z_VR s_VB f_VB z_VB
    have OL8 := fun b hb => (O8.lt b hb).1
    have HB9 := VB.1
    have HTB := Hid.mk VB.there
    have VB9 := VB.filled [.int .i64 pc, .int .i64 pk, .slice c8 l8 d8] rfl
    have VR9 := VR.apart (B := w62.heap.size) (by first | omega | (simp; omega)) 0 [.int .i64 pc, .int .i64 pk, .slice c8 l8 d8]
    have B9 := belowCells B (show w.heap.size ≤ w62.heap.size by first | omega | (simp; done) | (simp; omega)) 0 [.int .i64 pc, .int .i64 pk, .slice c8 l8 d8]
    have O9 := O8.apart (B := w62.heap.size) (by intro b hb; have := OL8 b hb; have := hVBz.out; omega) 0 [.int .i64 pc, .int .i64 pk, .slice c8 l8 d8]
    obtain ⟨w9, hw9⟩ : ∃ w9, World.setCells w63 (w62.heap.size) 0 [.int .i64 pc, .int .i64 pk, .slice c8 l8 d8] = w9 := ⟨_, rfl⟩
    rw [hw9] at VB9 VR9 B9 O9
    replace hw9 := Hid.mk hw9
    clear OL8 O8 ha hr Bo
    replace VB := Hid.mk VB
    replace VR := Hid.mk VR
    replace B := Hid.mk B
    obtain ⟨s_VB, f_VB, z_VB⟩ := VB.out.open
    obtain ⟨s_VR, f_VR, z_VR⟩ := VR.out.open
    go_upto_region 10 with (refine wpList_stroke w9 rfl 28 _ _ rfl (w62.heap.size) 0 #[.int .i64 pc, .int .i64 pk, .slice c8 l8 d8] rfl rfl HTB.out (by kernel_rfl) (by kernel_rfl) hw9.out ?_)
    clear s_VB f_VB z_VB s_VR f_VR z_VR VB VR B
    have VB := VB9
    have VR := VR9
    have B := B9
    have O := O9
    clear VB9 VR9 B9 O9
    skip
    have VF := Hid.mk (VR.filled [.int .i64 pc, .int .i64 pk, .slice c8 l8 d8] rfl)
    have HT := Hid.mk VR.there
    have BR := belowCells B (show w.heap.size ≤ w.heap.size by (first | omega | (simp; done) | (simp; omega))) 0 [.int .i64 pc, .int .i64 pk, .slice c8 l8 d8]
    replace BR := Hid.mk BR
    have HO := Hid.mk ((O.mono (show w.heap.size ≤ _ by have := hVRz.out; omega)).apart (B := w.heap.size) (by intro b hb; have := (O.lt b hb).1; have := hVRz.out; omega) 0 [.int .i64 pc, .int .i64 pk, .slice c8 l8 d8])
    obtain ⟨s_VR, f_VR, z_VR⟩ := VR.open
    obtain ⟨s_VB, f_VB, z_VB⟩ := VB.open
    go_wp2_with (refine wpList_store_mid rfl 28 _ _ rfl (w.heap.size) 0 #[.int .i64 pc, .int .i64 pk, .slice c8 l8 d8] rfl rfl HT.out (by kernel_rfl) (by kernel_rfl) ?_)
    refine bodyPost_ret (v := .agg #[.int .i64 pc, .int .i64 pk, .slice c8 l8 d8]) (results_row Tryz.results7 _ _ (w.heap.size) [.int .i64 pc, .int .i64 pk, .slice c8 l8 d8] _ rfl VF.out Tryz.underlying28 rfl (by kernel_rfl)) rfl ⟨c8, d8, rfl, HO.out, BR.out⟩

end Go.Proofs.YtfldgeokigcokaaGreat
