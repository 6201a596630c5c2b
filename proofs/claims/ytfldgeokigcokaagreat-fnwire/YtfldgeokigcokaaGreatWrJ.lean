/- Reading a term's bytes: the model, what stops at the first named term. -/
import Derived.Test.YtfldgeokigcokaaGreatWrH
namespace Go.Proofs.YtfldgeokigcokaaGreat
open Go.RowKit

set_option maxRecDepth 20000 in
set_option maxHeartbeats 16000000 in
theorem l7Decode_stop_none (b2 o2 m cb : Nat) (ds : List Int) (hb : Bytes ds) (hm : ds.length = m) (hm4 : m ≤ 400) (k : Nat) (a : Option Addr) (n ca : Nat) (xs : List T4) (w : World) (ha : RdTerm w a xs) (hn : xs.length = n) (hx : n ≤ 1000) (hca : a = none → ca = 0) (hr : Rd .u8 w (some ⟨b2, o2, none⟩) ds) (dp : Int) (hdp : -1000 ≤ dp ∧ dp ≤ 30) (hk : k < m) (o : Int) (ho : ds.getD k 0 = o) (hob : btw o 1 7 = true) (kk : Int) (hkk : kids o = kk) (hkz : (kk == 0) = false) (A : Go.Proofs.YtfldgeokigcokaaGreat.Put × Int) (CA : ∀ w : World, RdTerm w a xs → Rd .u8 w (some ⟨b2, o2, none⟩) ds → Calls Tryz.prog 24 #[.slice a n ca, .slice (some ⟨b2, o2, none⟩) m cb, .int .i64 ((k : Int) + 1), .int .i64 (dp + 1)] w (Reads w A)) (hs : A.2 < 0) :
    Calls Tryz.prog 24 #[.slice a n ca, .slice (some ⟨b2, o2, none⟩) m cb, .int .i64 (k : Int), .int .i64 dp] w (Reads w A) := by
  have q1 := build_tr_
  have q2 := build_tm1
  obtain ⟨hd0, hd1⟩ := hdp
  unfold Reads
  have hkm : (k : Int) < (m : Int) := by omega
  have g1 : decide (m ≤ k) = false := by simp; omega
  have g2 : decide (30 < dp) = false := by simp; omega
  have HA := Hid.mk ha
  have HR := Hid.mk hr
  have _u := And.intro hb (And.intro hm4 (And.intro hx (And.intro hn hca)))
  have rk : (w.alloc (.cells #[.int .i64 0, .int .i64 0, .slice none 0 0] 28)).cell? ⟨b2, o2 + k, none⟩ = some (.int .u8 o) := by
    rcases hr.kept (belowA w (.cells #[.int .i64 0, .int .i64 0, .slice none 0 0] 28)) with h0 | ⟨b3, o3, e3, h3⟩
    · rw [h0] at hm; simp at hm; omega
    · simp only [Option.some.injEq, Addr.mk.injEq, and_true] at e3
      obtain ⟨rfl, rfl⟩ := e3
      rw [h3 k (by omega), ho]
  unfold Reads at CA
  obtain ⟨⟨ac, ak, al⟩, ae⟩ := A
  simp only at CA hs ⊢
  obtain ⟨ll, hll⟩ : ∃ l, al.length = l := ⟨_, rfl⟩
  rw [hll] at CA ⊢
  replace CA := Hid.mk CA
  have hb0 : 0 ≤ o := by have := btw_iff.1 hob; omega
  have hb1 : o < 256 := by have := btw_iff.1 hob; omega
  have CI := l1In_ok o 1 7
  rw [hob] at CI
  replace CI := Hid.mk CI
  have CK := l5Kids_ok o
  rw [hkk] at CK
  replace CK := Hid.mk CK
  clear hkk hob
  go_enter Tryz.func24, Tryz.ntmps24
  have B := Below.refl w.heap.size w
  replace B := thenB B (belowA w (.cells #[.int .i64 0, .int .i64 0, .slice none 0 0] 28))
  have VR := V.new w [.int .i64 0, .int .i64 0, .slice none 0 0] 28
  replace VR := VR.kept (belowA (w.alloc (.cells #[.int .i64 0, .int .i64 0, .slice none 0 0] 28)) (.cells #[.int .i64 o, .int .i64 0, .int .i64 0, .int .i64 0] 70))
  replace B := thenB B (belowA (w.alloc (.cells #[.int .i64 0, .int .i64 0, .slice none 0 0] 28)) (.cells #[.int .i64 o, .int .i64 0, .int .i64 0, .int .i64 0] 70))
  have VT : V ((w.alloc (.cells #[.int .i64 0, .int .i64 0, .slice none 0 0] 28)).alloc (.cells #[.int .i64 o, .int .i64 0, .int .i64 0, .int .i64 0] 70)) (w.heap.size + 1) [.int .i64 o, .int .i64 0, .int .i64 0, .int .i64 0] := V.newAt _ _ _ _ (by simp)
  obtain ⟨s_VR, f_VR, z_VR⟩ := VR.open
  obtain ⟨s_VT, f_VT, z_VT⟩ := VT.open
  have Bo := B
  go_wp2_with (first | (go_at_call 50; refine (CI.out _).mono ?_; rintro e wq ⟨rfl, rfl⟩) | (go_at_call 51; refine (CK.out _).mono ?_; rintro e wq ⟨rfl, rfl⟩) | fail)
  refine (CA.out _ (HA.out.kept B) (HR.out.kept B)).mono ?_
  rintro e w11 ⟨c, d, rfl, O, b11⟩
  clear s_VR f_VR z_VR s_VT f_VT z_VT
  have S11 := b11.size
  simp only [World.size_alloc] at S11
  replace VR := VR.kept b11
  replace VT := VT.kept b11
  replace B := thenB B b11
  clear b11
  obtain ⟨s_VR, f_VR, z_VR⟩ := VR.open
  obtain ⟨s_VT, f_VT, z_VT⟩ := VT.open
  have Bo := B
  replace VR := VR.kept (belowA w11 (.cells #[.int .i64 ac, .int .i64 ak, .slice c ll d] 28))
  replace VT := VT.kept (belowA w11 (.cells #[.int .i64 ac, .int .i64 ak, .slice c ll d] 28))
  replace O := O.kept (belowA w11 (.cells #[.int .i64 ac, .int .i64 ak, .slice c ll d] 28))
  replace B := thenB B (belowA w11 (.cells #[.int .i64 ac, .int .i64 ak, .slice c ll d] 28))
  have VA := V.new w11 [.int .i64 ac, .int .i64 ak, .slice c ll d] 28
  clear s_VR f_VR z_VR s_VT f_VT z_VT
  obtain ⟨s_VR, f_VR, z_VR⟩ := VR.open
  obtain ⟨s_VT, f_VT, z_VT⟩ := VT.open
  obtain ⟨s_VA, f_VA, z_VA⟩ := VA.open
  have Bo := B
  have OL := Hid.mk (fun b hb => (O.lt b hb).1)
  clear s_VR f_VR z_VR s_VT f_VT z_VT s_VA f_VA z_VA
  have VF := Hid.mk (VR.filled [.int .i64 ac, .int .i64 ak, .slice c ll d] rfl)
  have HT := Hid.mk VR.there
  have BR := belowCells B (show w.heap.size ≤ w.heap.size by (first | omega | (simp; done) | (simp; omega))) 0 [.int .i64 ac, .int .i64 ak, .slice c ll d]
  replace BR := Hid.mk BR
  have HO := Hid.mk ((O.mono (show w.heap.size ≤ _ by first | omega | (simp; done) | (simp; omega))).apart (B := w.heap.size) (by intro b hb; have := OL.out b hb; first | omega | (simp at this; omega)) 0 [.int .i64 ac, .int .i64 ak, .slice c ll d])
  obtain ⟨s_VR, f_VR, z_VR⟩ := VR.open
  obtain ⟨s_VT, f_VT, z_VT⟩ := VT.open
  obtain ⟨s_VA, f_VA, z_VA⟩ := VA.open
  go_wp2_with (first | (go_at_call 50; refine (CI.out _).mono ?_; rintro e wq ⟨rfl, rfl⟩) | (go_at_call 51; refine (CK.out _).mono ?_; rintro e wq ⟨rfl, rfl⟩) | (refine wpList_store_mid rfl 28 _ _ rfl (w.heap.size) 0 #[.int .i64 ac, .int .i64 ak, .slice c ll d] rfl rfl HT.out (by kernel_rfl) (by kernel_rfl) ?_))
  refine bodyPost_ret (v := .tuple #[.agg #[.int .i64 ac, .int .i64 ak, .slice c ll d], .int .i64 ae]) (results_row_n Tryz.results24 _ _ (w.heap.size) [.int .i64 ac, .int .i64 ak, .slice c ll d] _ _ rfl VF.out Tryz.underlying28 rfl (by kernel_rfl) rfl) rfl ⟨c, d, rfl, HO.out, BR.out⟩

set_option maxRecDepth 20000 in
set_option maxHeartbeats 16000000 in
theorem l7Decode_stop_full (b2 o2 m cb : Nat) (ds : List Int) (hb : Bytes ds) (hm : ds.length = m) (hm4 : m ≤ 400) (k : Nat) (a : Option Addr) (n ca : Nat) (xs : List T4) (w : World) (ha : RdTerm w a xs) (hn : xs.length = n) (hx : n ≤ 1000) (hca : a = none → ca = 0) (hr : Rd .u8 w (some ⟨b2, o2, none⟩) ds) (dp : Int) (hdp : -1000 ≤ dp ∧ dp ≤ 30) (hk : k < m) (o : Int) (ho : ds.getD k 0 = o) (hob : btw o 1 7 = true) (kk : Int) (hkk : kids o = kk) (hkz : (kk == 0) = false) (A : Go.Proofs.YtfldgeokigcokaaGreat.Put × Int) (CA : ∀ w : World, RdTerm w a xs → Rd .u8 w (some ⟨b2, o2, none⟩) ds → Calls Tryz.prog 24 #[.slice a n ca, .slice (some ⟨b2, o2, none⟩) m cb, .int .i64 ((k : Int) + 1), .int .i64 (dp + 1)] w (Reads w A)) (hs : 0 ≤ A.2 ∧ (A.1.c != 0) = true) :
    Calls Tryz.prog 24 #[.slice a n ca, .slice (some ⟨b2, o2, none⟩) m cb, .int .i64 (k : Int), .int .i64 dp] w (Reads w A) := by
  have q1 := build_tr_
  have q2 := build_tm1
  obtain ⟨hd0, hd1⟩ := hdp
  unfold Reads
  have hkm : (k : Int) < (m : Int) := by omega
  have g1 : decide (m ≤ k) = false := by simp; omega
  have g2 : decide (30 < dp) = false := by simp; omega
  have HA := Hid.mk ha
  have HR := Hid.mk hr
  have _u := And.intro hb (And.intro hm4 (And.intro hx (And.intro hn hca)))
  have rk : (w.alloc (.cells #[.int .i64 0, .int .i64 0, .slice none 0 0] 28)).cell? ⟨b2, o2 + k, none⟩ = some (.int .u8 o) := by
    rcases hr.kept (belowA w (.cells #[.int .i64 0, .int .i64 0, .slice none 0 0] 28)) with h0 | ⟨b3, o3, e3, h3⟩
    · rw [h0] at hm; simp at hm; omega
    · simp only [Option.some.injEq, Addr.mk.injEq, and_true] at e3
      obtain ⟨rfl, rfl⟩ := e3
      rw [h3 k (by omega), ho]
  unfold Reads at CA
  obtain ⟨⟨ac, ak, al⟩, ae⟩ := A
  simp only at CA hs ⊢
  obtain ⟨ll, hll⟩ : ∃ l, al.length = l := ⟨_, rfl⟩
  rw [hll] at CA ⊢
  replace CA := Hid.mk CA
  obtain ⟨hs0, hs1⟩ := hs
  have hb0 : 0 ≤ o := by have := btw_iff.1 hob; omega
  have hb1 : o < 256 := by have := btw_iff.1 hob; omega
  have CI := l1In_ok o 1 7
  rw [hob] at CI
  replace CI := Hid.mk CI
  have CK := l5Kids_ok o
  rw [hkk] at CK
  replace CK := Hid.mk CK
  clear hkk hob
  go_enter Tryz.func24, Tryz.ntmps24
  have B := Below.refl w.heap.size w
  replace B := thenB B (belowA w (.cells #[.int .i64 0, .int .i64 0, .slice none 0 0] 28))
  have VR := V.new w [.int .i64 0, .int .i64 0, .slice none 0 0] 28
  replace VR := VR.kept (belowA (w.alloc (.cells #[.int .i64 0, .int .i64 0, .slice none 0 0] 28)) (.cells #[.int .i64 o, .int .i64 0, .int .i64 0, .int .i64 0] 70))
  replace B := thenB B (belowA (w.alloc (.cells #[.int .i64 0, .int .i64 0, .slice none 0 0] 28)) (.cells #[.int .i64 o, .int .i64 0, .int .i64 0, .int .i64 0] 70))
  have VT : V ((w.alloc (.cells #[.int .i64 0, .int .i64 0, .slice none 0 0] 28)).alloc (.cells #[.int .i64 o, .int .i64 0, .int .i64 0, .int .i64 0] 70)) (w.heap.size + 1) [.int .i64 o, .int .i64 0, .int .i64 0, .int .i64 0] := V.newAt _ _ _ _ (by simp)
  obtain ⟨s_VR, f_VR, z_VR⟩ := VR.open
  obtain ⟨s_VT, f_VT, z_VT⟩ := VT.open
  have Bo := B
  go_wp2_with (first | (go_at_call 50; refine (CI.out _).mono ?_; rintro e wq ⟨rfl, rfl⟩) | (go_at_call 51; refine (CK.out _).mono ?_; rintro e wq ⟨rfl, rfl⟩) | fail)
  refine (CA.out _ (HA.out.kept B) (HR.out.kept B)).mono ?_
  rintro e w11 ⟨c, d, rfl, O, b11⟩
  clear s_VR f_VR z_VR s_VT f_VT z_VT
  have S11 := b11.size
  simp only [World.size_alloc] at S11
  replace VR := VR.kept b11
  replace VT := VT.kept b11
  replace B := thenB B b11
  clear b11
  obtain ⟨s_VR, f_VR, z_VR⟩ := VR.open
  obtain ⟨s_VT, f_VT, z_VT⟩ := VT.open
  have Bo := B
  replace VR := VR.kept (belowA w11 (.cells #[.int .i64 ac, .int .i64 ak, .slice c ll d] 28))
  replace VT := VT.kept (belowA w11 (.cells #[.int .i64 ac, .int .i64 ak, .slice c ll d] 28))
  replace O := O.kept (belowA w11 (.cells #[.int .i64 ac, .int .i64 ak, .slice c ll d] 28))
  replace B := thenB B (belowA w11 (.cells #[.int .i64 ac, .int .i64 ak, .slice c ll d] 28))
  have VA := V.new w11 [.int .i64 ac, .int .i64 ak, .slice c ll d] 28
  clear s_VR f_VR z_VR s_VT f_VT z_VT
  obtain ⟨s_VR, f_VR, z_VR⟩ := VR.open
  obtain ⟨s_VT, f_VT, z_VT⟩ := VT.open
  obtain ⟨s_VA, f_VA, z_VA⟩ := VA.open
  have Bo := B
  have OL := Hid.mk (fun b hb => (O.lt b hb).1)
  clear s_VR f_VR z_VR s_VT f_VT z_VT s_VA f_VA z_VA
  have VF := Hid.mk (VR.filled [.int .i64 ac, .int .i64 ak, .slice c ll d] rfl)
  have HT := Hid.mk VR.there
  have BR := belowCells B (show w.heap.size ≤ w.heap.size by (first | omega | (simp; done) | (simp; omega))) 0 [.int .i64 ac, .int .i64 ak, .slice c ll d]
  replace BR := Hid.mk BR
  have HO := Hid.mk ((O.mono (show w.heap.size ≤ _ by first | omega | (simp; done) | (simp; omega))).apart (B := w.heap.size) (by intro b hb; have := OL.out b hb; first | omega | (simp at this; omega)) 0 [.int .i64 ac, .int .i64 ak, .slice c ll d])
  obtain ⟨s_VR, f_VR, z_VR⟩ := VR.open
  obtain ⟨s_VT, f_VT, z_VT⟩ := VT.open
  obtain ⟨s_VA, f_VA, z_VA⟩ := VA.open
  go_wp2_with (first | (go_at_call 50; refine (CI.out _).mono ?_; rintro e wq ⟨rfl, rfl⟩) | (go_at_call 51; refine (CK.out _).mono ?_; rintro e wq ⟨rfl, rfl⟩) | (refine wpList_store_mid rfl 28 _ _ rfl (w.heap.size) 0 #[.int .i64 ac, .int .i64 ak, .slice c ll d] rfl rfl HT.out (by kernel_rfl) (by kernel_rfl) ?_))
  refine bodyPost_ret (v := .tuple #[.agg #[.int .i64 ac, .int .i64 ak, .slice c ll d], .int .i64 ae]) (results_row_n Tryz.results24 _ _ (w.heap.size) [.int .i64 ac, .int .i64 ak, .slice c ll d] _ _ rfl VF.out Tryz.underlying28 rfl (by kernel_rfl) rfl) rfl ⟨c, d, rfl, HO.out, BR.out⟩

end Go.Proofs.YtfldgeokigcokaaGreat
