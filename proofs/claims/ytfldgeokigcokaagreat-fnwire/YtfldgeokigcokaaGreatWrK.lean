/- Reading a term's bytes: the model, a half. -/
import Derived.Test.YtfldgeokigcokaaGreatWrJ
namespace Go.Proofs.YtfldgeokigcokaaGreat
open Go.RowKit

set_option maxRecDepth 20000 in
set_option maxHeartbeats 16000000 in
theorem l7Decode_half_no (b2 o2 m cb : Nat) (ds : List Int) (hb : Bytes ds) (hm : ds.length = m) (hm4 : m ≤ 400) (k : Nat) (a : Option Addr) (n ca : Nat) (xs : List T4) (w : World) (ha : RdTerm w a xs) (hn : xs.length = n) (hx : n ≤ 1000) (hca : a = none → ca = 0) (hr : Rd .u8 w (some ⟨b2, o2, none⟩) ds) (dp : Int) (hdp : -1000 ≤ dp ∧ dp ≤ 30) (hk : k < m) (ho : ds.getD k 0 = 6) (A : Go.Proofs.YtfldgeokigcokaaGreat.Put × Int) (CA : ∀ w : World, RdTerm w a xs → Rd .u8 w (some ⟨b2, o2, none⟩) ds → Calls Tryz.prog 24 #[.slice a n ca, .slice (some ⟨b2, o2, none⟩) m cb, .int .i64 ((k : Int) + 1), .int .i64 (dp + 1)] w (Reads w A)) (W : Well ds A) (hs : ((tmAt A.1.l A.1.k).o != 2) = true) :
    Calls Tryz.prog 24 #[.slice a n ca, .slice (some ⟨b2, o2, none⟩) m cb, .int .i64 (k : Int), .int .i64 dp] w (Reads w (⟨0, 0, []⟩, -1)) := by
  have q1 := build_tr_
  have q2 := build_tm1
  obtain ⟨hd0, hd1⟩ := hdp
  unfold Reads
  have hkm : (k : Int) < (m : Int) := by omega
  have g1 : decide (m ≤ k) = false := by simp; omega
  have g2 : decide (30 < dp) = false := by simp; omega
  have HA := Hid.mk ha
  have HR := Hid.mk hr
  have _u := And.intro hb (And.intro hm4 (And.intro hx (And.intro hn hca)))
  have rk : (w.alloc (.cells #[.int .i64 0, .int .i64 0, .slice none 0 0] 28)).cell? ⟨b2, o2 + k, none⟩ = some (.int .u8 6) := by
    rcases hr.kept (belowA w (.cells #[.int .i64 0, .int .i64 0, .slice none 0 0] 28)) with h0 | ⟨b3, o3, e3, h3⟩
    · rw [h0] at hm; simp at hm; omega
    · simp only [Option.some.injEq, Addr.mk.injEq, and_true] at e3
      obtain ⟨rfl, rfl⟩ := e3
      rw [h3 k (by omega), ho]
  unfold Reads at CA
  obtain ⟨⟨ac, ak, al⟩, ae⟩ := A
  obtain ⟨w1, w2, w3, w4, w5, w6⟩ := W
  simp only at CA hs w1 w2 w3 w4 w5 w6 ⊢
  subst w1
  obtain ⟨ja, rfl⟩ : ∃ j : Nat, ak = (j : Int) := ⟨ak.toNat, by omega⟩
  obtain ⟨ll, hll⟩ : ∃ l, al.length = l := ⟨_, rfl⟩
  have hl4 : ll ≤ 400 := by have := (tfC_zero w2).1; omega
  have hjl : (ja : Int) < (ll : Int) := by omega
  rw [hll] at CA
  unfold tmAt at hs
  simp only [Int.toNat_natCast] at hs
  obtain ⟨xj, hxj⟩ : ∃ x, al.getD ja zTerm = x := ⟨_, rfl⟩
  rw [hxj] at hs
  replace CA := Hid.mk CA
  have hbad : decide (ae < 0) = false := by simp; omega
  have CI := l1In_ok 6 1 7
  rw [show btw 6 1 7 = true from btw_iff.2 (by omega)] at CI
  replace CI := Hid.mk CI
  have CK := l5Kids_ok 6
  rw [show kids 6 = 1 by unfold kids; simp] at CK
  replace CK := Hid.mk CK
  go_enter Tryz.func24, Tryz.ntmps24
  have B := Below.refl w.heap.size w
  replace B := thenB B (belowA w (.cells #[.int .i64 0, .int .i64 0, .slice none 0 0] 28))
  have VR := V.new w [.int .i64 0, .int .i64 0, .slice none 0 0] 28
  replace VR := VR.kept (belowA (w.alloc (.cells #[.int .i64 0, .int .i64 0, .slice none 0 0] 28)) (.cells #[.int .i64 6, .int .i64 0, .int .i64 0, .int .i64 0] 70))
  replace B := thenB B (belowA (w.alloc (.cells #[.int .i64 0, .int .i64 0, .slice none 0 0] 28)) (.cells #[.int .i64 6, .int .i64 0, .int .i64 0, .int .i64 0] 70))
  have VT : V ((w.alloc (.cells #[.int .i64 0, .int .i64 0, .slice none 0 0] 28)).alloc (.cells #[.int .i64 6, .int .i64 0, .int .i64 0, .int .i64 0] 70)) (w.heap.size + 1) [.int .i64 6, .int .i64 0, .int .i64 0, .int .i64 0] := V.newAt _ _ _ _ (by simp)
  obtain ⟨s_VR, f_VR, z_VR⟩ := VR.open
  obtain ⟨s_VT, f_VT, z_VT⟩ := VT.open
  have Bo := B
  go_wp2_with (first | (go_at_call 50; refine (CI.out _).mono ?_; rintro e wq ⟨rfl, rfl⟩) | (go_at_call 51; refine (CK.out _).mono ?_; rintro e wq ⟨rfl, rfl⟩) | fail)
  refine (CA.out _ (HA.out.kept B) (HR.out.kept B)).mono ?_
  rintro e w11 ⟨c, d, rfl, O, b11⟩
  clear s_VR f_VR z_VR s_VT f_VT z_VT
  have S11 := b11.size
  simp only [World.size_alloc] at S11
  replace VR := VR.kept b11
  replace VT := VT.kept b11
  replace B := thenB B b11
  clear b11
  obtain ⟨s_VR, f_VR, z_VR⟩ := VR.open
  obtain ⟨s_VT, f_VT, z_VT⟩ := VT.open
  have Bo := B
  replace VR := VR.kept (belowA w11 (.cells #[.int .i64 0, .int .i64 (ja : Int), .slice c ll d] 28))
  replace VT := VT.kept (belowA w11 (.cells #[.int .i64 0, .int .i64 (ja : Int), .slice c ll d] 28))
  replace O := O.kept (belowA w11 (.cells #[.int .i64 0, .int .i64 (ja : Int), .slice c ll d] 28))
  replace B := thenB B (belowA w11 (.cells #[.int .i64 0, .int .i64 (ja : Int), .slice c ll d] 28))
  have VA := V.new w11 [.int .i64 0, .int .i64 (ja : Int), .slice c ll d] 28
  clear s_VR f_VR z_VR s_VT f_VT z_VT
  obtain ⟨s_VR, f_VR, z_VR⟩ := VR.open
  obtain ⟨s_VT, f_VT, z_VT⟩ := VT.open
  obtain ⟨s_VA, f_VA, z_VA⟩ := VA.open
  replace VR := VR.other (p := ⟨w.heap.size + 1, 1, none⟩) (by (try simp); (try omega)) (.int .i64 (ja : Int))
  replace VT := VT.set (i := 1) (by simp) (.int .i64 (ja : Int))
  simp only [List.set_cons_zero, List.set_cons_succ] at VT
  replace VA := VA.other (p := ⟨w.heap.size + 1, 1, none⟩) (by (try simp); (try omega)) (.int .i64 (ja : Int))
  replace O := O.below (p := ⟨w.heap.size + 1, 1, none⟩) (by (try simp); (try omega)) (.int .i64 (ja : Int))
  replace B := B.setCell (p := ⟨w.heap.size + 1, 1, none⟩) (by (try simp); (try omega)) (.int .i64 (ja : Int))
  go_upto_region 15 with fail
  clear s_VR f_VR z_VR s_VT f_VT z_VT s_VA f_VA z_VA
  obtain ⟨s_VR, f_VR, z_VR⟩ := VR.open
  obtain ⟨s_VT, f_VT, z_VT⟩ := VT.open
  obtain ⟨s_VA, f_VA, z_VA⟩ := VA.open
  have Bo := B
  have hcn := ownTerm_nocap O
  rcases O.rd with h0 | ⟨b4, o4, rfl, hca4⟩
  · rw [h0] at hll; simp at hll; omega
  obtain ⟨p0, _, _, p3⟩ := RdTerm.cells hca4 ja (by omega) _ hxj
  clear hca4 hxj
  go_wp2_with (first | (go_at_call 50; refine (CI.out _).mono ?_; rintro e wq ⟨rfl, rfl⟩) | (go_at_call 51; refine (CK.out _).mono ?_; rintro e wq ⟨rfl, rfl⟩) | fail)
  go_quiet (fail)
  clear s_VR f_VR z_VR s_VT f_VT z_VT s_VA f_VA z_VA
  have bq := belowN (Below.refl (((w11.alloc (.cells #[.int .i64 0, .int .i64 (ja : Int), .slice (some ⟨b4, o4, none⟩) ll d] 28)).setCell ⟨w.heap.size + 1, 1, none⟩ (.int .i64 (ja : Int)))).heap.size (((w11.alloc (.cells #[.int .i64 0, .int .i64 (ja : Int), .slice (some ⟨b4, o4, none⟩) ll d] 28)).setCell ⟨w.heap.size + 1, 1, none⟩ (.int .i64 (ja : Int))))) nq
  have Sq := bq.size
  try simp only [World.size_alloc, World.size_setCell] at Sq
  replace VR := VR.kept bq
  replace VT := VT.kept bq
  replace VA := VA.kept bq
  replace O := O.kept bq
  replace B := thenB B bq
  clear bq
  generalize World.drewN ((w11.alloc (.cells #[.int .i64 0, .int .i64 (ja : Int), .slice (some ⟨b4, o4, none⟩) ll d] 28)).setCell ⟨w.heap.size + 1, 1, none⟩ (.int .i64 (ja : Int))) nq = wn at *
  obtain ⟨s_VR, f_VR, z_VR⟩ := VR.open
  obtain ⟨s_VT, f_VT, z_VT⟩ := VT.open
  obtain ⟨s_VA, f_VA, z_VA⟩ := VA.open
  have Bo := B
  clear O hcn
  clear s_VR f_VR z_VR s_VT f_VT z_VT s_VA f_VA z_VA
  have VF := Hid.mk (VR.filled [.int .i64 0, .int .i64 0, .slice none 0 0] rfl)
  have HT := Hid.mk VR.there
  have BR := belowCells B (show w.heap.size ≤ w.heap.size by (first | omega | (simp; done) | (simp; omega))) 0 [.int .i64 0, .int .i64 0, .slice none 0 0]
  replace BR := Hid.mk BR
  obtain ⟨s_VR, f_VR, z_VR⟩ := VR.open
  obtain ⟨s_VT, f_VT, z_VT⟩ := VT.open
  obtain ⟨s_VA, f_VA, z_VA⟩ := VA.open
  go_wp2_with (first | (go_at_call 50; refine (CI.out _).mono ?_; rintro e wq ⟨rfl, rfl⟩) | (go_at_call 51; refine (CK.out _).mono ?_; rintro e wq ⟨rfl, rfl⟩) | (refine wpList_store_mid rfl 28 _ _ rfl (w.heap.size) 0 #[.int .i64 0, .int .i64 0, .slice none 0 0] rfl rfl HT.out (by kernel_rfl) (by kernel_rfl) ?_))
  refine bodyPost_ret (v := .tuple #[.agg #[.int .i64 0, .int .i64 0, .slice none 0 0], .int .i64 (-1)]) (results_row_n Tryz.results24 _ _ (w.heap.size) [.int .i64 0, .int .i64 0, .slice none 0 0] _ _ rfl VF.out Tryz.underlying28 rfl (by kernel_rfl) rfl) rfl ⟨none, 0, rfl, OwnTerm.none, BR.out⟩

set_option maxRecDepth 20000 in
set_option maxHeartbeats 16000000 in
theorem l7Decode_half (b2 o2 m cb : Nat) (ds : List Int) (hb : Bytes ds) (hm : ds.length = m) (hm4 : m ≤ 400) (k : Nat) (a : Option Addr) (n ca : Nat) (xs : List T4) (w : World) (ha : RdTerm w a xs) (hn : xs.length = n) (hx : n ≤ 1000) (hca : a = none → ca = 0) (hr : Rd .u8 w (some ⟨b2, o2, none⟩) ds) (dp : Int) (hdp : -1000 ≤ dp ∧ dp ≤ 30) (hk : k < m) (ho : ds.getD k 0 = 6) (A : Go.Proofs.YtfldgeokigcokaaGreat.Put × Int) (CA : ∀ w : World, RdTerm w a xs → Rd .u8 w (some ⟨b2, o2, none⟩) ds → Calls Tryz.prog 24 #[.slice a n ca, .slice (some ⟨b2, o2, none⟩) m cb, .int .i64 ((k : Int) + 1), .int .i64 (dp + 1)] w (Reads w A)) (W : Well ds A) (hs : (tmAt A.1.l A.1.k).o = 2) :
    Calls Tryz.prog 24 #[.slice a n ca, .slice (some ⟨b2, o2, none⟩) m cb, .int .i64 (k : Int), .int .i64 dp] w (Reads w (put A.1.l ⟨6, A.1.k, 0, 0⟩, A.2)) := by
  have q1 := build_tr_
  have q2 := build_tm1
  obtain ⟨hd0, hd1⟩ := hdp
  unfold Reads
  have hkm : (k : Int) < (m : Int) := by omega
  have g1 : decide (m ≤ k) = false := by simp; omega
  have g2 : decide (30 < dp) = false := by simp; omega
  have HA := Hid.mk ha
  have HR := Hid.mk hr
  have _u := And.intro hb (And.intro hm4 (And.intro hx (And.intro hn hca)))
  have rk : (w.alloc (.cells #[.int .i64 0, .int .i64 0, .slice none 0 0] 28)).cell? ⟨b2, o2 + k, none⟩ = some (.int .u8 6) := by
    rcases hr.kept (belowA w (.cells #[.int .i64 0, .int .i64 0, .slice none 0 0] 28)) with h0 | ⟨b3, o3, e3, h3⟩
    · rw [h0] at hm; simp at hm; omega
    · simp only [Option.some.injEq, Addr.mk.injEq, and_true] at e3
      obtain ⟨rfl, rfl⟩ := e3
      rw [h3 k (by omega), ho]
  unfold Reads at CA
  obtain ⟨⟨ac, ak, al⟩, ae⟩ := A
  obtain ⟨w1, w2, w3, w4, w5, w6⟩ := W
  simp only at CA hs w1 w2 w3 w4 w5 w6 ⊢
  subst w1
  obtain ⟨ja, rfl⟩ : ∃ j : Nat, ak = (j : Int) := ⟨ak.toNat, by omega⟩
  obtain ⟨ll, hll⟩ : ∃ l, al.length = l := ⟨_, rfl⟩
  have hl4 : ll ≤ 400 := by have := (tfC_zero w2).1; omega
  have hjl : (ja : Int) < (ll : Int) := by omega
  rw [hll] at CA
  unfold tmAt at hs
  simp only [Int.toNat_natCast] at hs
  obtain ⟨xj, hxj⟩ : ∃ x, al.getD ja zTerm = x := ⟨_, rfl⟩
  rw [hxj] at hs
  replace CA := Hid.mk CA
  have hbad : decide (ae < 0) = false := by simp; omega
  have CP := fun c d w h hc => l5Put_ok c ll d al ⟨6, (ja : Int), 0, 0⟩ w h hll (by omega) hc
  generalize put al ⟨6, (ja : Int), 0, 0⟩ = P at *
  obtain ⟨pc, pk, pl⟩ := P
  simp only at CP ⊢
  obtain ⟨l3, hl3⟩ : ∃ l, pl.length = l := ⟨_, rfl⟩
  rw [hl3] at CP ⊢
  replace CP := Hid.mk CP
  have CI := l1In_ok 6 1 7
  rw [show btw 6 1 7 = true from btw_iff.2 (by omega)] at CI
  replace CI := Hid.mk CI
  have CK := l5Kids_ok 6
  rw [show kids 6 = 1 by unfold kids; simp] at CK
  replace CK := Hid.mk CK
  go_enter Tryz.func24, Tryz.ntmps24
  have B := Below.refl w.heap.size w
  replace B := thenB B (belowA w (.cells #[.int .i64 0, .int .i64 0, .slice none 0 0] 28))
  have VR := V.new w [.int .i64 0, .int .i64 0, .slice none 0 0] 28
  replace VR := VR.kept (belowA (w.alloc (.cells #[.int .i64 0, .int .i64 0, .slice none 0 0] 28)) (.cells #[.int .i64 6, .int .i64 0, .int .i64 0, .int .i64 0] 70))
  replace B := thenB B (belowA (w.alloc (.cells #[.int .i64 0, .int .i64 0, .slice none 0 0] 28)) (.cells #[.int .i64 6, .int .i64 0, .int .i64 0, .int .i64 0] 70))
  have VT : V ((w.alloc (.cells #[.int .i64 0, .int .i64 0, .slice none 0 0] 28)).alloc (.cells #[.int .i64 6, .int .i64 0, .int .i64 0, .int .i64 0] 70)) (w.heap.size + 1) [.int .i64 6, .int .i64 0, .int .i64 0, .int .i64 0] := V.newAt _ _ _ _ (by simp)
  obtain ⟨s_VR, f_VR, z_VR⟩ := VR.open
  obtain ⟨s_VT, f_VT, z_VT⟩ := VT.open
  have Bo := B
  go_wp2_with (first | (go_at_call 50; refine (CI.out _).mono ?_; rintro e wq ⟨rfl, rfl⟩) | (go_at_call 51; refine (CK.out _).mono ?_; rintro e wq ⟨rfl, rfl⟩) | fail)
  refine (CA.out _ (HA.out.kept B) (HR.out.kept B)).mono ?_
  rintro e w11 ⟨c, d, rfl, O, b11⟩
  clear s_VR f_VR z_VR s_VT f_VT z_VT
  have S11 := b11.size
  simp only [World.size_alloc] at S11
  replace VR := VR.kept b11
  replace VT := VT.kept b11
  replace B := thenB B b11
  clear b11
  obtain ⟨s_VR, f_VR, z_VR⟩ := VR.open
  obtain ⟨s_VT, f_VT, z_VT⟩ := VT.open
  have Bo := B
  replace VR := VR.kept (belowA w11 (.cells #[.int .i64 0, .int .i64 (ja : Int), .slice c ll d] 28))
  replace VT := VT.kept (belowA w11 (.cells #[.int .i64 0, .int .i64 (ja : Int), .slice c ll d] 28))
  replace O := O.kept (belowA w11 (.cells #[.int .i64 0, .int .i64 (ja : Int), .slice c ll d] 28))
  replace B := thenB B (belowA w11 (.cells #[.int .i64 0, .int .i64 (ja : Int), .slice c ll d] 28))
  have VA := V.new w11 [.int .i64 0, .int .i64 (ja : Int), .slice c ll d] 28
  clear s_VR f_VR z_VR s_VT f_VT z_VT
  obtain ⟨s_VR, f_VR, z_VR⟩ := VR.open
  obtain ⟨s_VT, f_VT, z_VT⟩ := VT.open
  obtain ⟨s_VA, f_VA, z_VA⟩ := VA.open
  replace VR := VR.other (p := ⟨w.heap.size + 1, 1, none⟩) (by (try simp); (try omega)) (.int .i64 (ja : Int))
  replace VT := VT.set (i := 1) (by simp) (.int .i64 (ja : Int))
  simp only [List.set_cons_zero, List.set_cons_succ] at VT
  replace VA := VA.other (p := ⟨w.heap.size + 1, 1, none⟩) (by (try simp); (try omega)) (.int .i64 (ja : Int))
  replace O := O.below (p := ⟨w.heap.size + 1, 1, none⟩) (by (try simp); (try omega)) (.int .i64 (ja : Int))
  replace B := B.setCell (p := ⟨w.heap.size + 1, 1, none⟩) (by (try simp); (try omega)) (.int .i64 (ja : Int))
  go_upto_region 15 with fail
  clear s_VR f_VR z_VR s_VT f_VT z_VT s_VA f_VA z_VA
  obtain ⟨s_VR, f_VR, z_VR⟩ := VR.open
  obtain ⟨s_VT, f_VT, z_VT⟩ := VT.open
  obtain ⟨s_VA, f_VA, z_VA⟩ := VA.open
  have Bo := B
  have hcn := ownTerm_nocap O
  rcases O.rd with h0 | ⟨b4, o4, rfl, hca4⟩
  · rw [h0] at hll; simp at hll; omega
  obtain ⟨p0, _, _, p3⟩ := RdTerm.cells hca4 ja (by omega) _ hxj
  clear hca4 hxj
  rw [hs] at p0
  go_wp2_with (first | (go_at_call 50; refine (CI.out _).mono ?_; rintro e wq ⟨rfl, rfl⟩) | (go_at_call 51; refine (CK.out _).mono ?_; rintro e wq ⟨rfl, rfl⟩) | fail)
  go_quiet (fail)
  clear s_VR f_VR z_VR s_VT f_VT z_VT s_VA f_VA z_VA
  have bq := belowN (Below.refl (((w11.alloc (.cells #[.int .i64 0, .int .i64 (ja : Int), .slice (some ⟨b4, o4, none⟩) ll d] 28)).setCell ⟨w.heap.size + 1, 1, none⟩ (.int .i64 (ja : Int)))).heap.size (((w11.alloc (.cells #[.int .i64 0, .int .i64 (ja : Int), .slice (some ⟨b4, o4, none⟩) ll d] 28)).setCell ⟨w.heap.size + 1, 1, none⟩ (.int .i64 (ja : Int))))) nq
  have Sq := bq.size
  try simp only [World.size_alloc, World.size_setCell] at Sq
  replace VR := VR.kept bq
  replace VT := VT.kept bq
  replace VA := VA.kept bq
  replace O := O.kept bq
  replace B := thenB B bq
  clear bq
  generalize World.drewN ((w11.alloc (.cells #[.int .i64 0, .int .i64 (ja : Int), .slice (some ⟨b4, o4, none⟩) ll d] 28)).setCell ⟨w.heap.size + 1, 1, none⟩ (.int .i64 (ja : Int))) nq = wn at *
  obtain ⟨s_VR, f_VR, z_VR⟩ := VR.open
  obtain ⟨s_VT, f_VT, z_VT⟩ := VT.open
  obtain ⟨s_VA, f_VA, z_VA⟩ := VA.open
  have Bo := B
  go_wp2_with (first | (go_at_call 50; refine (CI.out _).mono ?_; rintro e wq ⟨rfl, rfl⟩) | (go_at_call 51; refine (CK.out _).mono ?_; rintro e wq ⟨rfl, rfl⟩) | fail)
  refine (CP.out _ _ _ O.rd hcn).mono ?_
  rintro e w12 ⟨c3, d3, rfl, O3, b12⟩
  clear s_VR f_VR z_VR s_VT f_VT z_VT s_VA f_VA z_VA
  have S12 := b12.size
  replace VR := VR.kept b12
  replace VT := VT.kept b12
  replace VA := VA.kept b12
  replace B := thenB B b12
  clear b12
  obtain ⟨s_VR, f_VR, z_VR⟩ := VR.open
  obtain ⟨s_VT, f_VT, z_VT⟩ := VT.open
  obtain ⟨s_VA, f_VA, z_VA⟩ := VA.open
  have Bo := B
  have OL := Hid.mk (fun b hb => (O3.lt b hb).1)
  clear s_VR f_VR z_VR s_VT f_VT z_VT s_VA f_VA z_VA
  have VF := Hid.mk (VR.filled [.int .i64 pc, .int .i64 pk, .slice c3 l3 d3] rfl)
  have HT := Hid.mk VR.there
  have BR := belowCells B (show w.heap.size ≤ w.heap.size by (first | omega | (simp; done) | (simp; omega))) 0 [.int .i64 pc, .int .i64 pk, .slice c3 l3 d3]
  replace BR := Hid.mk BR
  have HO := Hid.mk ((O3.mono (show w.heap.size ≤ _ by first | omega | (simp; done) | (simp; omega))).apart (B := w.heap.size) (by intro b hb; have := OL.out b hb; first | omega | (simp at this; omega)) 0 [.int .i64 pc, .int .i64 pk, .slice c3 l3 d3])
  obtain ⟨s_VR, f_VR, z_VR⟩ := VR.open
  obtain ⟨s_VT, f_VT, z_VT⟩ := VT.open
  obtain ⟨s_VA, f_VA, z_VA⟩ := VA.open
  go_wp2_with (first | (go_at_call 50; refine (CI.out _).mono ?_; rintro e wq ⟨rfl, rfl⟩) | (go_at_call 51; refine (CK.out _).mono ?_; rintro e wq ⟨rfl, rfl⟩) | (refine wpList_store_mid rfl 28 _ _ rfl (w.heap.size) 0 #[.int .i64 pc, .int .i64 pk, .slice c3 l3 d3] rfl rfl HT.out (by kernel_rfl) (by kernel_rfl) ?_))
  refine bodyPost_ret (v := .tuple #[.agg #[.int .i64 pc, .int .i64 pk, .slice c3 l3 d3], .int .i64 ae]) (results_row_n Tryz.results24 _ _ (w.heap.size) [.int .i64 pc, .int .i64 pk, .slice c3 l3 d3] _ _ rfl VF.out Tryz.underlying28 rfl (by kernel_rfl) rfl) rfl ⟨c3, d3, rfl, HO.out, BR.out⟩

end Go.Proofs.YtfldgeokigcokaaGreat
