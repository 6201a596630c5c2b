/- A term as bytes: the model. -/
import Derived.Test.YtfldgeokigcokaaGreatWrD
import Derived.Test.YtfldgeokigcokaaGreatWrC
import Derived.Test.YtfldgeokigcokaaGreatRow
import Derived.Test.YtfldgeokigcokaaGreatZl
import Derived.Test.YtfldgeokigcokaaGreatHeld
import Derived.Test.YtfldgeokigcokaaGreatHeldR
namespace Go.Proofs.YtfldgeokigcokaaGreat
open Go.RowKit

/-- What a right table's term is made of, by its Op. -/
theorem den_kinds {xs : List T4} (h : tfC xs = 0) (k : Nat) (hk : k < xs.length) (o a b n : Int) (hx : xs.getD k zTerm = ⟨o, a, b, n⟩) :
    ((o = 1 ∨ o = 2) ∧ den xs k = .leaf o n ∧ 0 ≤ n ∧ n ≤ 9999)
    ∨ (o = 6 ∧ den xs k = .one 6 (den xs a.toNat) ∧ 0 ≤ a ∧ a < k)
    ∨ ((o = 3 ∨ o = 4 ∨ o = 5) ∧ den xs k = .two o (den xs a.toNat) (den xs b.toNat) ∧ (0 ≤ a ∧ a < k) ∧ 0 ≤ b ∧ b < k)
    ∨ (o = 7 ∧ ¬ (tmAt xs b).n < (tmAt xs a).n ∧ den xs k = .two 7 (den xs a.toNat) (den xs b.toNat) ∧ (0 ≤ a ∧ a < k) ∧ 0 ≤ b ∧ b < k)
    ∨ (o = 7 ∧ (tmAt xs b).n < (tmAt xs a).n ∧ den xs k = .two 7 (den xs b.toNat) (den xs a.toNat) ∧ (0 ≤ a ∧ a < k) ∧ 0 ≤ b ∧ b < k) := by
  have HA := tfC_ahead h
  have N := tfC_nice h
  obtain ⟨h1, h2⟩ := HA k hk
  have R := N.rise k hk
  have z := tm_zero ((tfC_zero h).2 k hk).1
  have d := den_at k hk HA
  rw [hx] at h1 h2 R z d
  simp only at h1 h2 R z d
  unfold mkTr at d
  simp only at d
  rcases kids_ways o with ⟨e, hk2⟩ | ⟨e, hk2⟩ | ⟨e, hk2⟩ | ⟨e, hk2⟩ | ⟨e, hk2⟩ | ⟨e3, e4, e5, e7, e6, hk2⟩
  iterate 3
    · have a1 := h1 (by omega)
      have a2 := h2 (by omega)
      rw [if_pos hk2, if_neg (fun hh => by omega)] at d
      exact .inr (.inr (.inl ⟨by omega, d, a1, a2⟩))
  · have a1 := h1 (by omega)
    have a2 := h2 (by omega)
    obtain ⟨r1, r2, _⟩ := R e
    have f1 := den_fresh a.toNat (by omega) HA r1
    have f2 := den_fresh b.toNat (by omega) HA r2
    have n1 : (den xs a.toNat).num = (tmAt xs a).n := by rw [f1]; rfl
    have n2 : (den xs b.toNat).num = (tmAt xs b).n := by rw [f2]; rfl
    rw [if_pos hk2, n1, n2] at d
    by_cases hc : (tmAt xs b).n < (tmAt xs a).n
    · rw [if_pos ⟨e, hc⟩, e] at d
      exact .inr (.inr (.inr (.inr ⟨e, hc, d, a1, a2⟩)))
    · rw [if_neg (fun hh => hc hh.2), e] at d
      exact .inr (.inr (.inr (.inl ⟨e, hc, d, a1, a2⟩)))
  · have a1 := h1 (by omega)
    rw [if_neg (by omega), if_pos hk2, e] at d
    exact .inr (.inl ⟨e, d, a1⟩)
  · rw [if_neg (by omega), if_neg (by omega)] at d
    exact .inl ⟨by omega, d, z.2.1⟩

set_option maxRecDepth 20000 in
set_option maxHeartbeats 16000000 in
theorem l7Encode_ok (a : Option Addr) (n ca : Nat) (xs : List T4) (hn : xs.length = n) (hv : tfC xs = 0) : ∀ k : Nat, k < n → (den xs k).sz ≤ 200 → ∀ w : World, RdTerm w a xs →
    Calls Tryz.prog 31 #[.slice a n ca, .int .i64 (k : Int)] w fun e w' => ∃ c d, e = .returned (.slice c (den xs k).enc.length d) ∧ Own .u8 5 w' w.heap.size c d (den xs k).enc ∧ Below w.heap.size w w' := by
  obtain ⟨i0, hi, q0, q1, q2⟩ := info_parts Tryz.info_u8
  have hn4 : n ≤ 400 := by have := (tfC_zero hv).1; omega
  intro k
  induction k using Nat.strongRecOn with
  | ind k ih =>
    intro hk hsz w ha
    have hk1 : (k : Int) < (n : Int) := by omega
    obtain ⟨⟨xo, xa, xb, xn⟩, hx⟩ : ∃ x, xs.getD k zTerm = x := ⟨_, rfl⟩
    have HW := den_kinds hv k (by omega) xo xa xb xn hx
    have HA := Hid.mk ha
    rcases ha with h0 | ⟨b1, o1, rfl, hca⟩
    · rw [h0] at hn; simp at hn; omega
    obtain ⟨p0, p1, p2, p3⟩ := RdTerm.cells hca k (by omega) _ hx
    simp only at p0 p1 p2 p3
    clear hx
    rcases HW with ⟨rfl | rfl, hd, hn0, hn9⟩ | ⟨rfl, hd, ha0, hak⟩ | ⟨rfl | rfl | rfl, hd, ⟨ha0, hak⟩, hb0, hbk⟩ | ⟨rfl, hcm, hd, ⟨ha0, hak⟩, hb0, hbk⟩ | ⟨rfl, hcm, hd, ⟨ha0, hak⟩, hb0, hbk⟩
    · skip
      rw [hd]
      have HENC : (Tr.leaf 1 xn).enc = [1] ++ putN xn 2 := by rw [putN_of2]; rfl
      replace HENC := Hid.mk HENC
      have HLEN : (Tr.leaf 1 xn).enc.length = 3 := rfl
      replace HLEN := Hid.mk HLEN
      clear hd hca ih hsz
      have B := Below.refl w.heap.size w
      have CK := l5Kids_ok 1
      rw [show kids 1 = 0 by unfold kids; simp] at CK
      replace CK := Hid.mk CK
      replace B := thenB B (belowA w (.cells #[.int .i64 1, .int .i64 xa, .int .i64 xb, .int .i64 xn] 70))
      have VX := V.new w [.int .i64 1, .int .i64 xa, .int .i64 xb, .int .i64 xn] 70
      have OO := Own.lit (w.alloc (.cells #[.int .i64 1, .int .i64 xa, .int .i64 xb, .int .i64 xn] 70)) 5 [1] (by unfold maxLen; decide)
      simp only [World.size_alloc, List.length_cons, List.length_nil] at OO
      replace VX := VX.kept (belowA (w.alloc (.cells #[.int .i64 1, .int .i64 xa, .int .i64 xb, .int .i64 xn] 70)) (.cells #[.int .u8 1] 5))
      replace B := thenB B (belowA (w.alloc (.cells #[.int .i64 1, .int .i64 xa, .int .i64 xb, .int .i64 xn] 70)) (.cells #[.int .u8 1] 5))
      have OQ := Hid.mk OO
      clear OO
      obtain ⟨s_VX, f_VX, z_VX⟩ := VX.open
      go_enter Tryz.func31, Tryz.ntmps31
      go_wp2_with (first | (go_at_call 51; refine (CK.out _).mono ?_; rintro e wq ⟨rfl, rfl⟩) | fail)
      refine (l1Bytes_ok xn 2 _ (by omega) (by omega)).mono ?_
      rintro e w1 ⟨c1, d1, rfl, O1, b1⟩
      clear s_VX f_VX z_VX
      have OR := Hid.mk (OQ.out.kept b1)
      have O1r := Hid.mk O1.rd
      have O1n := Hid.mk O1.nocap
      have S1 := b1.size
      simp only [World.size_alloc] at S1
      replace B := Hid.mk (thenB B b1)
      clear b1 O1 OQ VX
      go_wp2_with (at_builtin; go_loud (refine wpList_put _ rfl _ _ 22 rfl (w.heap.size + 1) 5 i0 Tryz.underlying22 hi q0 q1 q2 _ _ 1 _ rfl OR.out rfl _ 2 _ _ rfl O1r.out (length_putN _ _) O1n.out 3 ([1] ++ putN xn 2) (by omega) rfl (by omega) (by omega) ?_))
      intro c2 d2 w2 O2 b2
      have BF := Hid.mk (B.out.trans (b2.mono (by omega)))
      have O3 := Hid.mk (O2.mono (Nat.le_succ _))
      clear b2 O2
      go_wp2
      go_ret
      rw [HLEN.out, HENC.out]
      exact ⟨c2, d2, rfl, O3.out, BF.out⟩
    · skip
      rw [hd]
      have HENC : (Tr.leaf 2 xn).enc = [2] ++ putN xn 2 := by rw [putN_of2]; rfl
      replace HENC := Hid.mk HENC
      have HLEN : (Tr.leaf 2 xn).enc.length = 3 := rfl
      replace HLEN := Hid.mk HLEN
      clear hd hca ih hsz
      have B := Below.refl w.heap.size w
      have CK := l5Kids_ok 2
      rw [show kids 2 = 0 by unfold kids; simp] at CK
      replace CK := Hid.mk CK
      replace B := thenB B (belowA w (.cells #[.int .i64 2, .int .i64 xa, .int .i64 xb, .int .i64 xn] 70))
      have VX := V.new w [.int .i64 2, .int .i64 xa, .int .i64 xb, .int .i64 xn] 70
      have OO := Own.lit (w.alloc (.cells #[.int .i64 2, .int .i64 xa, .int .i64 xb, .int .i64 xn] 70)) 5 [2] (by unfold maxLen; decide)
      simp only [World.size_alloc, List.length_cons, List.length_nil] at OO
      replace VX := VX.kept (belowA (w.alloc (.cells #[.int .i64 2, .int .i64 xa, .int .i64 xb, .int .i64 xn] 70)) (.cells #[.int .u8 2] 5))
      replace B := thenB B (belowA (w.alloc (.cells #[.int .i64 2, .int .i64 xa, .int .i64 xb, .int .i64 xn] 70)) (.cells #[.int .u8 2] 5))
      have OQ := Hid.mk OO
      clear OO
      obtain ⟨s_VX, f_VX, z_VX⟩ := VX.open
      go_enter Tryz.func31, Tryz.ntmps31
      go_wp2_with (first | (go_at_call 51; refine (CK.out _).mono ?_; rintro e wq ⟨rfl, rfl⟩) | fail)
      refine (l1Bytes_ok xn 2 _ (by omega) (by omega)).mono ?_
      rintro e w1 ⟨c1, d1, rfl, O1, b1⟩
      clear s_VX f_VX z_VX
      have OR := Hid.mk (OQ.out.kept b1)
      have O1r := Hid.mk O1.rd
      have O1n := Hid.mk O1.nocap
      have S1 := b1.size
      simp only [World.size_alloc] at S1
      replace B := Hid.mk (thenB B b1)
      clear b1 O1 OQ VX
      go_wp2_with (at_builtin; go_loud (refine wpList_put _ rfl _ _ 22 rfl (w.heap.size + 1) 5 i0 Tryz.underlying22 hi q0 q1 q2 _ _ 1 _ rfl OR.out rfl _ 2 _ _ rfl O1r.out (length_putN _ _) O1n.out 3 ([2] ++ putN xn 2) (by omega) rfl (by omega) (by omega) ?_))
      intro c2 d2 w2 O2 b2
      have BF := Hid.mk (B.out.trans (b2.mono (by omega)))
      have O3 := Hid.mk (O2.mono (Nat.le_succ _))
      clear b2 O2
      go_wp2
      go_ret
      rw [HLEN.out, HENC.out]
      exact ⟨c2, d2, rfl, O3.out, BF.out⟩
    · skip
      obtain ⟨ja, rfl⟩ : ∃ j : Nat, xa = (j : Int) := ⟨xa.toNat, by omega⟩
      simp only [Int.toNat_natCast] at hd
      have hja : ja < k := by omega
      have hjan : (ja : Int) < (n : Int) := by omega
      have CA := ih ja (by omega) (by omega)
      obtain ⟨TA, hTA⟩ : ∃ t, den xs ja = t := ⟨_, rfl⟩
      rw [hTA] at CA hd
      rw [hd] at hsz ⊢
      simp only [Tr.sz] at hsz
      have pA := TA.sz_in
      have lA : (TA.enc.length : Int) ≤ 600 := by have := TA.enc_len (by omega); omega
      replace CA := Hid.mk (CA (by omega))
      obtain ⟨la, hla⟩ : ∃ l, TA.enc.length = l := ⟨_, rfl⟩
      have HENC : (Tr.one 6 TA).enc = [6] ++ TA.enc := by simp [Tr.enc]
      replace HENC := Hid.mk HENC
      have HLEN : (Tr.one 6 TA).enc.length = 1 + la := by simp [Tr.enc, hla]; omega
      replace HLEN := Hid.mk HLEN
      rw [hla] at CA lA
      replace hla := Hid.mk hla
      clear hd hTA hca ih hsz pA
      have B := Below.refl w.heap.size w
      have CK := l5Kids_ok 6
      rw [show kids 6 = 1 by unfold kids; simp] at CK
      replace CK := Hid.mk CK
      replace B := thenB B (belowA w (.cells #[.int .i64 6, .int .i64 (ja : Int), .int .i64 xb, .int .i64 xn] 70))
      have VX := V.new w [.int .i64 6, .int .i64 (ja : Int), .int .i64 xb, .int .i64 xn] 70
      have OO := Own.lit (w.alloc (.cells #[.int .i64 6, .int .i64 (ja : Int), .int .i64 xb, .int .i64 xn] 70)) 5 [6] (by unfold maxLen; decide)
      simp only [World.size_alloc, List.length_cons, List.length_nil] at OO
      replace VX := VX.kept (belowA (w.alloc (.cells #[.int .i64 6, .int .i64 (ja : Int), .int .i64 xb, .int .i64 xn] 70)) (.cells #[.int .u8 6] 5))
      replace B := thenB B (belowA (w.alloc (.cells #[.int .i64 6, .int .i64 (ja : Int), .int .i64 xb, .int .i64 xn] 70)) (.cells #[.int .u8 6] 5))
      have OQ := Hid.mk OO
      clear OO
      obtain ⟨s_VX, f_VX, z_VX⟩ := VX.open
      go_enter Tryz.func31, Tryz.ntmps31
      go_wp2_with (first | (go_at_call 51; refine (CK.out _).mono ?_; rintro e wq ⟨rfl, rfl⟩) | fail)
      go_quiet (fail)
      clear s_VX f_VX z_VX
      have bq := belowN (Below.refl (((w.alloc (.cells #[.int .i64 6, .int .i64 (ja : Int), .int .i64 xb, .int .i64 xn] 70)).alloc (.cells #[.int .u8 6] 5))).heap.size (((w.alloc (.cells #[.int .i64 6, .int .i64 (ja : Int), .int .i64 xb, .int .i64 xn] 70)).alloc (.cells #[.int .u8 6] 5)))) nq
      have OR := Hid.mk (OQ.out.kept bq)
      have S0 := bq.size
      simp only [World.size_alloc] at S0
      replace VX := VX.kept bq
      replace B := thenB B bq
      clear bq OQ
      generalize World.drewN ((w.alloc (.cells #[.int .i64 6, .int .i64 (ja : Int), .int .i64 xb, .int .i64 xn] 70)).alloc (.cells #[.int .u8 6] 5)) nq = wn at *
      obtain ⟨s_VX, f_VX, z_VX⟩ := VX.open
      go_wp2_with (first | (go_at_call 51; refine (CK.out _).mono ?_; rintro e wq ⟨rfl, rfl⟩) | fail)
      refine (CA.out _ (HA.out.kept B)).mono ?_
      rintro e waa ⟨cwa, dwa, rfl, Owa, bwa⟩
      clear s_VX f_VX z_VX
      replace OR := Hid.mk (OR.out.kept bwa)
      have Nwa := Hid.mk Owa.nocap
      have Rwa := Hid.mk Owa.rd
      have S_wa := bwa.size
      replace VX := VX.kept bwa
      replace B := thenB B bwa
      clear bwa Owa
      replace B := Hid.mk B
      replace VX := Hid.mk VX
      go_wp2_with (at_builtin; go_loud (refine wpList_put _ rfl _ _ 22 rfl (w.heap.size + 1) 5 i0 Tryz.underlying22 hi q0 q1 q2 _ _ 1 _ rfl OR.out rfl _ la _ _ rfl Rwa.out hla.out Nwa.out (1 + la) ([6] ++ TA.enc) (by omega) rfl (by omega) (by omega) ?_))
      intro cwab dwab wab Owab bwab
      skip
      clear OR
      replace VX := VX.out.keptB (by omega) bwab
      replace B := B.out.trans (bwab.mono (by omega))
      have S_wab : waa.heap.size ≤ wab.heap.size ∨ True := .inr trivial
      have OR := Hid.mk Owab
      clear bwab Owab
      have hsz : w.heap.size + 1 ≤ wab.heap.size := by have := OR.out.lt; have h1 := VX.1; have h2 := OR.out.some_of (by simp); obtain ⟨g4, rfl, h3⟩ := h2; have := (OR.out.lt _ rfl).2; simp only at this; omega
      obtain ⟨s_VX, f_VX, z_VX⟩ := VX.open
      go_wp2_with (first | (go_at_call 51; refine (CK.out _).mono ?_; rintro e wq ⟨rfl, rfl⟩) | fail)
      go_ret
      rw [HLEN.out, HENC.out]
      exact ⟨cwab, dwab, rfl, OR.out.mono (Nat.le_succ _), B⟩
    · skip
      obtain ⟨ja, rfl⟩ : ∃ j : Nat, xa = (j : Int) := ⟨xa.toNat, by omega⟩
      obtain ⟨jb, rfl⟩ : ∃ j : Nat, xb = (j : Int) := ⟨xb.toNat, by omega⟩
      simp only [Int.toNat_natCast] at hd
      have hja : ja < k := by omega
      have hjb : jb < k := by omega
      have hjan : (ja : Int) < (n : Int) := by omega
      have hjbn : (jb : Int) < (n : Int) := by omega
      have CA := ih ja (by omega) (by omega)
      have CB := ih jb (by omega) (by omega)
      obtain ⟨TA, hTA⟩ : ∃ t, den xs ja = t := ⟨_, rfl⟩
      obtain ⟨TB, hTB⟩ : ∃ t, den xs jb = t := ⟨_, rfl⟩
      rw [hTA] at CA
      rw [hTB] at CB
      rw [hTA, hTB] at hd
      rw [hd] at hsz ⊢
      simp only [Tr.sz] at hsz
      have pA := TA.sz_in
      have pB := TB.sz_in
      have lA : (TA.enc.length : Int) ≤ 600 := by have := TA.enc_len (by omega); omega
      have lB : (TB.enc.length : Int) ≤ 600 := by have := TB.enc_len (by omega); omega
      replace CA := Hid.mk (CA (by omega))
      replace CB := Hid.mk (CB (by omega))
      obtain ⟨la, hla⟩ : ∃ l, TA.enc.length = l := ⟨_, rfl⟩
      obtain ⟨lb, hlb⟩ : ∃ l, TB.enc.length = l := ⟨_, rfl⟩
      have HENC : (Tr.two 3 TA TB).enc = ([3] ++ TA.enc) ++ TB.enc := by simp [Tr.enc]
      replace HENC := Hid.mk HENC
      have HLEN : (Tr.two 3 TA TB).enc.length = 1 + la + lb := by simp [Tr.enc, hla, hlb]; omega
      replace HLEN := Hid.mk HLEN
      rw [hla] at CA lA
      rw [hlb] at CB lB
      replace hla := Hid.mk hla
      replace hlb := Hid.mk hlb
      clear hd hTA hTB hca ih hsz pA pB
      have B := Below.refl w.heap.size w
      have CK := l5Kids_ok 3
      rw [show kids 3 = 2 by unfold kids; simp] at CK
      replace CK := Hid.mk CK
      replace B := thenB B (belowA w (.cells #[.int .i64 3, .int .i64 (ja : Int), .int .i64 (jb : Int), .int .i64 xn] 70))
      have VX := V.new w [.int .i64 3, .int .i64 (ja : Int), .int .i64 (jb : Int), .int .i64 xn] 70
      have OO := Own.lit (w.alloc (.cells #[.int .i64 3, .int .i64 (ja : Int), .int .i64 (jb : Int), .int .i64 xn] 70)) 5 [3] (by unfold maxLen; decide)
      simp only [World.size_alloc, List.length_cons, List.length_nil] at OO
      replace VX := VX.kept (belowA (w.alloc (.cells #[.int .i64 3, .int .i64 (ja : Int), .int .i64 (jb : Int), .int .i64 xn] 70)) (.cells #[.int .u8 3] 5))
      replace B := thenB B (belowA (w.alloc (.cells #[.int .i64 3, .int .i64 (ja : Int), .int .i64 (jb : Int), .int .i64 xn] 70)) (.cells #[.int .u8 3] 5))
      have OQ := Hid.mk OO
      clear OO
      obtain ⟨s_VX, f_VX, z_VX⟩ := VX.open
      go_enter Tryz.func31, Tryz.ntmps31
      go_wp2_with (first | (go_at_call 51; refine (CK.out _).mono ?_; rintro e wq ⟨rfl, rfl⟩) | fail)
      go_quiet (fail)
      clear s_VX f_VX z_VX
      have bq := belowN (Below.refl (((w.alloc (.cells #[.int .i64 3, .int .i64 (ja : Int), .int .i64 (jb : Int), .int .i64 xn] 70)).alloc (.cells #[.int .u8 3] 5))).heap.size (((w.alloc (.cells #[.int .i64 3, .int .i64 (ja : Int), .int .i64 (jb : Int), .int .i64 xn] 70)).alloc (.cells #[.int .u8 3] 5)))) nq
      have OR := Hid.mk (OQ.out.kept bq)
      have S0 := bq.size
      simp only [World.size_alloc] at S0
      replace VX := VX.kept bq
      replace B := thenB B bq
      clear bq OQ
      generalize World.drewN ((w.alloc (.cells #[.int .i64 3, .int .i64 (ja : Int), .int .i64 (jb : Int), .int .i64 xn] 70)).alloc (.cells #[.int .u8 3] 5)) nq = wn at *
      obtain ⟨s_VX, f_VX, z_VX⟩ := VX.open
      go_wp2_with (first | (go_at_call 51; refine (CK.out _).mono ?_; rintro e wq ⟨rfl, rfl⟩) | fail)
      refine (CA.out _ (HA.out.kept B)).mono ?_
      rintro e waa ⟨cwa, dwa, rfl, Owa, bwa⟩
      clear s_VX f_VX z_VX
      replace OR := Hid.mk (OR.out.kept bwa)
      have Nwa := Hid.mk Owa.nocap
      have Rwa := Hid.mk Owa.rd
      have S_wa := bwa.size
      replace VX := VX.kept bwa
      replace B := thenB B bwa
      clear bwa Owa
      replace B := Hid.mk B
      replace VX := Hid.mk VX
      go_wp2_with (at_builtin; go_loud (refine wpList_put _ rfl _ _ 22 rfl (w.heap.size + 1) 5 i0 Tryz.underlying22 hi q0 q1 q2 _ _ 1 _ rfl OR.out rfl _ la _ _ rfl Rwa.out hla.out Nwa.out (1 + la) ([3] ++ TA.enc) (by omega) rfl (by omega) (by omega) ?_))
      intro cwab dwab wab Owab bwab
      skip
      clear OR
      replace VX := VX.out.keptB (by omega) bwab
      replace B := B.out.trans (bwab.mono (by omega))
      have S_wab : waa.heap.size ≤ wab.heap.size ∨ True := .inr trivial
      have OR := Hid.mk Owab
      clear bwab Owab
      have hsz : w.heap.size + 1 ≤ wab.heap.size := by have := OR.out.lt; have h1 := VX.1; have h2 := OR.out.some_of (by simp); obtain ⟨g4, rfl, h3⟩ := h2; have := (OR.out.lt _ rfl).2; simp only at this; omega
      obtain ⟨s_VX, f_VX, z_VX⟩ := VX.open
      go_wp2_with (first | (go_at_call 51; refine (CK.out _).mono ?_; rintro e wq ⟨rfl, rfl⟩) | fail)
      refine (CB.out _ (HA.out.kept B)).mono ?_
      rintro e wba ⟨cwb, dwb, rfl, Owb, bwb⟩
      clear s_VX f_VX z_VX
      replace OR := Hid.mk (OR.out.kept bwb)
      have Nwb := Hid.mk Owb.nocap
      have Rwb := Hid.mk Owb.rd
      have S_wb := bwb.size
      replace VX := VX.kept bwb
      replace B := thenB B bwb
      clear bwb Owb
      replace B := Hid.mk B
      replace VX := Hid.mk VX
      go_wp2_with (at_builtin; go_loud (refine wpList_put _ rfl _ _ 22 rfl (w.heap.size + 1) 5 i0 Tryz.underlying22 hi q0 q1 q2 _ _ (1 + la) _ rfl OR.out (by simp [hla.out]; omega) _ lb _ _ rfl Rwb.out hlb.out Nwb.out (1 + la + lb) (([3] ++ TA.enc) ++ TB.enc) (by omega) rfl (by omega) (by omega) ?_))
      intro cwbb dwbb wbb Owbb bwbb
      skip
      clear OR
      replace VX := VX.out.keptB (by omega) bwbb
      replace B := B.out.trans (bwbb.mono (by omega))
      have S_wbb : wba.heap.size ≤ wbb.heap.size ∨ True := .inr trivial
      have OR := Hid.mk Owbb
      clear bwbb Owbb
      obtain ⟨s_VX, f_VX, z_VX⟩ := VX.open
      go_wp2
      go_ret
      rw [HLEN.out, HENC.out]
      exact ⟨cwbb, dwbb, rfl, OR.out.mono (Nat.le_succ _), B⟩
    · skip
      obtain ⟨ja, rfl⟩ : ∃ j : Nat, xa = (j : Int) := ⟨xa.toNat, by omega⟩
      obtain ⟨jb, rfl⟩ : ∃ j : Nat, xb = (j : Int) := ⟨xb.toNat, by omega⟩
      simp only [Int.toNat_natCast] at hd
      have hja : ja < k := by omega
      have hjb : jb < k := by omega
      have hjan : (ja : Int) < (n : Int) := by omega
      have hjbn : (jb : Int) < (n : Int) := by omega
      have CA := ih ja (by omega) (by omega)
      have CB := ih jb (by omega) (by omega)
      obtain ⟨TA, hTA⟩ : ∃ t, den xs ja = t := ⟨_, rfl⟩
      obtain ⟨TB, hTB⟩ : ∃ t, den xs jb = t := ⟨_, rfl⟩
      rw [hTA] at CA
      rw [hTB] at CB
      rw [hTA, hTB] at hd
      rw [hd] at hsz ⊢
      simp only [Tr.sz] at hsz
      have pA := TA.sz_in
      have pB := TB.sz_in
      have lA : (TA.enc.length : Int) ≤ 600 := by have := TA.enc_len (by omega); omega
      have lB : (TB.enc.length : Int) ≤ 600 := by have := TB.enc_len (by omega); omega
      replace CA := Hid.mk (CA (by omega))
      replace CB := Hid.mk (CB (by omega))
      obtain ⟨la, hla⟩ : ∃ l, TA.enc.length = l := ⟨_, rfl⟩
      obtain ⟨lb, hlb⟩ : ∃ l, TB.enc.length = l := ⟨_, rfl⟩
      have HENC : (Tr.two 4 TA TB).enc = ([4] ++ TA.enc) ++ TB.enc := by simp [Tr.enc]
      replace HENC := Hid.mk HENC
      have HLEN : (Tr.two 4 TA TB).enc.length = 1 + la + lb := by simp [Tr.enc, hla, hlb]; omega
      replace HLEN := Hid.mk HLEN
      rw [hla] at CA lA
      rw [hlb] at CB lB
      replace hla := Hid.mk hla
      replace hlb := Hid.mk hlb
      clear hd hTA hTB hca ih hsz pA pB
      have B := Below.refl w.heap.size w
      have CK := l5Kids_ok 4
      rw [show kids 4 = 2 by unfold kids; simp] at CK
      replace CK := Hid.mk CK
      replace B := thenB B (belowA w (.cells #[.int .i64 4, .int .i64 (ja : Int), .int .i64 (jb : Int), .int .i64 xn] 70))
      have VX := V.new w [.int .i64 4, .int .i64 (ja : Int), .int .i64 (jb : Int), .int .i64 xn] 70
      have OO := Own.lit (w.alloc (.cells #[.int .i64 4, .int .i64 (ja : Int), .int .i64 (jb : Int), .int .i64 xn] 70)) 5 [4] (by unfold maxLen; decide)
      simp only [World.size_alloc, List.length_cons, List.length_nil] at OO
      replace VX := VX.kept (belowA (w.alloc (.cells #[.int .i64 4, .int .i64 (ja : Int), .int .i64 (jb : Int), .int .i64 xn] 70)) (.cells #[.int .u8 4] 5))
      replace B := thenB B (belowA (w.alloc (.cells #[.int .i64 4, .int .i64 (ja : Int), .int .i64 (jb : Int), .int .i64 xn] 70)) (.cells #[.int .u8 4] 5))
      have OQ := Hid.mk OO
      clear OO
      obtain ⟨s_VX, f_VX, z_VX⟩ := VX.open
      go_enter Tryz.func31, Tryz.ntmps31
      go_wp2_with (first | (go_at_call 51; refine (CK.out _).mono ?_; rintro e wq ⟨rfl, rfl⟩) | fail)
      go_quiet (fail)
      clear s_VX f_VX z_VX
      have bq := belowN (Below.refl (((w.alloc (.cells #[.int .i64 4, .int .i64 (ja : Int), .int .i64 (jb : Int), .int .i64 xn] 70)).alloc (.cells #[.int .u8 4] 5))).heap.size (((w.alloc (.cells #[.int .i64 4, .int .i64 (ja : Int), .int .i64 (jb : Int), .int .i64 xn] 70)).alloc (.cells #[.int .u8 4] 5)))) nq
      have OR := Hid.mk (OQ.out.kept bq)
      have S0 := bq.size
      simp only [World.size_alloc] at S0
      replace VX := VX.kept bq
      replace B := thenB B bq
      clear bq OQ
      generalize World.drewN ((w.alloc (.cells #[.int .i64 4, .int .i64 (ja : Int), .int .i64 (jb : Int), .int .i64 xn] 70)).alloc (.cells #[.int .u8 4] 5)) nq = wn at *
      obtain ⟨s_VX, f_VX, z_VX⟩ := VX.open
      go_wp2_with (first | (go_at_call 51; refine (CK.out _).mono ?_; rintro e wq ⟨rfl, rfl⟩) | fail)
      refine (CA.out _ (HA.out.kept B)).mono ?_
      rintro e waa ⟨cwa, dwa, rfl, Owa, bwa⟩
      clear s_VX f_VX z_VX
      replace OR := Hid.mk (OR.out.kept bwa)
      have Nwa := Hid.mk Owa.nocap
      have Rwa := Hid.mk Owa.rd
      have S_wa := bwa.size
      replace VX := VX.kept bwa
      replace B := thenB B bwa
      clear bwa Owa
      replace B := Hid.mk B
      replace VX := Hid.mk VX
      go_wp2_with (at_builtin; go_loud (refine wpList_put _ rfl _ _ 22 rfl (w.heap.size + 1) 5 i0 Tryz.underlying22 hi q0 q1 q2 _ _ 1 _ rfl OR.out rfl _ la _ _ rfl Rwa.out hla.out Nwa.out (1 + la) ([4] ++ TA.enc) (by omega) rfl (by omega) (by omega) ?_))
      intro cwab dwab wab Owab bwab
      skip
      clear OR
      replace VX := VX.out.keptB (by omega) bwab
      replace B := B.out.trans (bwab.mono (by omega))
      have S_wab : waa.heap.size ≤ wab.heap.size ∨ True := .inr trivial
      have OR := Hid.mk Owab
      clear bwab Owab
      have hsz : w.heap.size + 1 ≤ wab.heap.size := by have := OR.out.lt; have h1 := VX.1; have h2 := OR.out.some_of (by simp); obtain ⟨g4, rfl, h3⟩ := h2; have := (OR.out.lt _ rfl).2; simp only at this; omega
      obtain ⟨s_VX, f_VX, z_VX⟩ := VX.open
      go_wp2_with (first | (go_at_call 51; refine (CK.out _).mono ?_; rintro e wq ⟨rfl, rfl⟩) | fail)
      refine (CB.out _ (HA.out.kept B)).mono ?_
      rintro e wba ⟨cwb, dwb, rfl, Owb, bwb⟩
      clear s_VX f_VX z_VX
      replace OR := Hid.mk (OR.out.kept bwb)
      have Nwb := Hid.mk Owb.nocap
      have Rwb := Hid.mk Owb.rd
      have S_wb := bwb.size
      replace VX := VX.kept bwb
      replace B := thenB B bwb
      clear bwb Owb
      replace B := Hid.mk B
      replace VX := Hid.mk VX
      go_wp2_with (at_builtin; go_loud (refine wpList_put _ rfl _ _ 22 rfl (w.heap.size + 1) 5 i0 Tryz.underlying22 hi q0 q1 q2 _ _ (1 + la) _ rfl OR.out (by simp [hla.out]; omega) _ lb _ _ rfl Rwb.out hlb.out Nwb.out (1 + la + lb) (([4] ++ TA.enc) ++ TB.enc) (by omega) rfl (by omega) (by omega) ?_))
      intro cwbb dwbb wbb Owbb bwbb
      skip
      clear OR
      replace VX := VX.out.keptB (by omega) bwbb
      replace B := B.out.trans (bwbb.mono (by omega))
      have S_wbb : wba.heap.size ≤ wbb.heap.size ∨ True := .inr trivial
      have OR := Hid.mk Owbb
      clear bwbb Owbb
      obtain ⟨s_VX, f_VX, z_VX⟩ := VX.open
      go_wp2
      go_ret
      rw [HLEN.out, HENC.out]
      exact ⟨cwbb, dwbb, rfl, OR.out.mono (Nat.le_succ _), B⟩
    · skip
      obtain ⟨ja, rfl⟩ : ∃ j : Nat, xa = (j : Int) := ⟨xa.toNat, by omega⟩
      obtain ⟨jb, rfl⟩ : ∃ j : Nat, xb = (j : Int) := ⟨xb.toNat, by omega⟩
      simp only [Int.toNat_natCast] at hd
      have hja : ja < k := by omega
      have hjb : jb < k := by omega
      have hjan : (ja : Int) < (n : Int) := by omega
      have hjbn : (jb : Int) < (n : Int) := by omega
      have CA := ih ja (by omega) (by omega)
      have CB := ih jb (by omega) (by omega)
      obtain ⟨TA, hTA⟩ : ∃ t, den xs ja = t := ⟨_, rfl⟩
      obtain ⟨TB, hTB⟩ : ∃ t, den xs jb = t := ⟨_, rfl⟩
      rw [hTA] at CA
      rw [hTB] at CB
      rw [hTA, hTB] at hd
      rw [hd] at hsz ⊢
      simp only [Tr.sz] at hsz
      have pA := TA.sz_in
      have pB := TB.sz_in
      have lA : (TA.enc.length : Int) ≤ 600 := by have := TA.enc_len (by omega); omega
      have lB : (TB.enc.length : Int) ≤ 600 := by have := TB.enc_len (by omega); omega
      replace CA := Hid.mk (CA (by omega))
      replace CB := Hid.mk (CB (by omega))
      obtain ⟨la, hla⟩ : ∃ l, TA.enc.length = l := ⟨_, rfl⟩
      obtain ⟨lb, hlb⟩ : ∃ l, TB.enc.length = l := ⟨_, rfl⟩
      have HENC : (Tr.two 5 TA TB).enc = ([5] ++ TA.enc) ++ TB.enc := by simp [Tr.enc]
      replace HENC := Hid.mk HENC
      have HLEN : (Tr.two 5 TA TB).enc.length = 1 + la + lb := by simp [Tr.enc, hla, hlb]; omega
      replace HLEN := Hid.mk HLEN
      rw [hla] at CA lA
      rw [hlb] at CB lB
      replace hla := Hid.mk hla
      replace hlb := Hid.mk hlb
      clear hd hTA hTB hca ih hsz pA pB
      have B := Below.refl w.heap.size w
      have CK := l5Kids_ok 5
      rw [show kids 5 = 2 by unfold kids; simp] at CK
      replace CK := Hid.mk CK
      replace B := thenB B (belowA w (.cells #[.int .i64 5, .int .i64 (ja : Int), .int .i64 (jb : Int), .int .i64 xn] 70))
      have VX := V.new w [.int .i64 5, .int .i64 (ja : Int), .int .i64 (jb : Int), .int .i64 xn] 70
      have OO := Own.lit (w.alloc (.cells #[.int .i64 5, .int .i64 (ja : Int), .int .i64 (jb : Int), .int .i64 xn] 70)) 5 [5] (by unfold maxLen; decide)
      simp only [World.size_alloc, List.length_cons, List.length_nil] at OO
      replace VX := VX.kept (belowA (w.alloc (.cells #[.int .i64 5, .int .i64 (ja : Int), .int .i64 (jb : Int), .int .i64 xn] 70)) (.cells #[.int .u8 5] 5))
      replace B := thenB B (belowA (w.alloc (.cells #[.int .i64 5, .int .i64 (ja : Int), .int .i64 (jb : Int), .int .i64 xn] 70)) (.cells #[.int .u8 5] 5))
      have OQ := Hid.mk OO
      clear OO
      obtain ⟨s_VX, f_VX, z_VX⟩ := VX.open
      go_enter Tryz.func31, Tryz.ntmps31
      go_wp2_with (first | (go_at_call 51; refine (CK.out _).mono ?_; rintro e wq ⟨rfl, rfl⟩) | fail)
      go_quiet (fail)
      clear s_VX f_VX z_VX
      have bq := belowN (Below.refl (((w.alloc (.cells #[.int .i64 5, .int .i64 (ja : Int), .int .i64 (jb : Int), .int .i64 xn] 70)).alloc (.cells #[.int .u8 5] 5))).heap.size (((w.alloc (.cells #[.int .i64 5, .int .i64 (ja : Int), .int .i64 (jb : Int), .int .i64 xn] 70)).alloc (.cells #[.int .u8 5] 5)))) nq
      have OR := Hid.mk (OQ.out.kept bq)
      have S0 := bq.size
      simp only [World.size_alloc] at S0
      replace VX := VX.kept bq
      replace B := thenB B bq
      clear bq OQ
      generalize World.drewN ((w.alloc (.cells #[.int .i64 5, .int .i64 (ja : Int), .int .i64 (jb : Int), .int .i64 xn] 70)).alloc (.cells #[.int .u8 5] 5)) nq = wn at *
      obtain ⟨s_VX, f_VX, z_VX⟩ := VX.open
      go_wp2_with (first | (go_at_call 51; refine (CK.out _).mono ?_; rintro e wq ⟨rfl, rfl⟩) | fail)
      refine (CA.out _ (HA.out.kept B)).mono ?_
      rintro e waa ⟨cwa, dwa, rfl, Owa, bwa⟩
      clear s_VX f_VX z_VX
      replace OR := Hid.mk (OR.out.kept bwa)
      have Nwa := Hid.mk Owa.nocap
      have Rwa := Hid.mk Owa.rd
      have S_wa := bwa.size
      replace VX := VX.kept bwa
      replace B := thenB B bwa
      clear bwa Owa
      replace B := Hid.mk B
      replace VX := Hid.mk VX
      go_wp2_with (at_builtin; go_loud (refine wpList_put _ rfl _ _ 22 rfl (w.heap.size + 1) 5 i0 Tryz.underlying22 hi q0 q1 q2 _ _ 1 _ rfl OR.out rfl _ la _ _ rfl Rwa.out hla.out Nwa.out (1 + la) ([5] ++ TA.enc) (by omega) rfl (by omega) (by omega) ?_))
      intro cwab dwab wab Owab bwab
      skip
      clear OR
      replace VX := VX.out.keptB (by omega) bwab
      replace B := B.out.trans (bwab.mono (by omega))
      have S_wab : waa.heap.size ≤ wab.heap.size ∨ True := .inr trivial
      have OR := Hid.mk Owab
      clear bwab Owab
      have hsz : w.heap.size + 1 ≤ wab.heap.size := by have := OR.out.lt; have h1 := VX.1; have h2 := OR.out.some_of (by simp); obtain ⟨g4, rfl, h3⟩ := h2; have := (OR.out.lt _ rfl).2; simp only at this; omega
      obtain ⟨s_VX, f_VX, z_VX⟩ := VX.open
      go_wp2_with (first | (go_at_call 51; refine (CK.out _).mono ?_; rintro e wq ⟨rfl, rfl⟩) | fail)
      refine (CB.out _ (HA.out.kept B)).mono ?_
      rintro e wba ⟨cwb, dwb, rfl, Owb, bwb⟩
      clear s_VX f_VX z_VX
      replace OR := Hid.mk (OR.out.kept bwb)
      have Nwb := Hid.mk Owb.nocap
      have Rwb := Hid.mk Owb.rd
      have S_wb := bwb.size
      replace VX := VX.kept bwb
      replace B := thenB B bwb
      clear bwb Owb
      replace B := Hid.mk B
      replace VX := Hid.mk VX
      go_wp2_with (at_builtin; go_loud (refine wpList_put _ rfl _ _ 22 rfl (w.heap.size + 1) 5 i0 Tryz.underlying22 hi q0 q1 q2 _ _ (1 + la) _ rfl OR.out (by simp [hla.out]; omega) _ lb _ _ rfl Rwb.out hlb.out Nwb.out (1 + la + lb) (([5] ++ TA.enc) ++ TB.enc) (by omega) rfl (by omega) (by omega) ?_))
      intro cwbb dwbb wbb Owbb bwbb
      skip
      clear OR
      replace VX := VX.out.keptB (by omega) bwbb
      replace B := B.out.trans (bwbb.mono (by omega))
      have S_wbb : wba.heap.size ≤ wbb.heap.size ∨ True := .inr trivial
      have OR := Hid.mk Owbb
      clear bwbb Owbb
      obtain ⟨s_VX, f_VX, z_VX⟩ := VX.open
      go_wp2
      go_ret
      rw [HLEN.out, HENC.out]
      exact ⟨cwbb, dwbb, rfl, OR.out.mono (Nat.le_succ _), B⟩
    · skip
      obtain ⟨ja, rfl⟩ : ∃ j : Nat, xa = (j : Int) := ⟨xa.toNat, by omega⟩
      obtain ⟨jb, rfl⟩ : ∃ j : Nat, xb = (j : Int) := ⟨xb.toNat, by omega⟩
      simp only [Int.toNat_natCast] at hd
      have hja : ja < k := by omega
      have hjb : jb < k := by omega
      have hjan : (ja : Int) < (n : Int) := by omega
      have hjbn : (jb : Int) < (n : Int) := by omega
      obtain ⟨zA, hzA⟩ : ∃ z, xs.getD ja zTerm = z := ⟨_, rfl⟩
      obtain ⟨zB, hzB⟩ : ∃ z, xs.getD jb zTerm = z := ⟨_, rfl⟩
      unfold tmAt at hcm
      simp only [Int.toNat_natCast] at hcm
      rw [hzA, hzB] at hcm
      have CA := ih ja (by omega) (by omega)
      have CB := ih jb (by omega) (by omega)
      obtain ⟨TA, hTA⟩ : ∃ t, den xs ja = t := ⟨_, rfl⟩
      obtain ⟨TB, hTB⟩ : ∃ t, den xs jb = t := ⟨_, rfl⟩
      rw [hTA] at CA
      rw [hTB] at CB
      rw [hTA, hTB] at hd
      rw [hd] at hsz ⊢
      simp only [Tr.sz] at hsz
      have pA := TA.sz_in
      have pB := TB.sz_in
      have lA : (TA.enc.length : Int) ≤ 600 := by have := TA.enc_len (by omega); omega
      have lB : (TB.enc.length : Int) ≤ 600 := by have := TB.enc_len (by omega); omega
      replace CA := Hid.mk (CA (by omega))
      replace CB := Hid.mk (CB (by omega))
      obtain ⟨la, hla⟩ : ∃ l, TA.enc.length = l := ⟨_, rfl⟩
      obtain ⟨lb, hlb⟩ : ∃ l, TB.enc.length = l := ⟨_, rfl⟩
      have HENC : (Tr.two 7 TA TB).enc = ([7] ++ TA.enc) ++ TB.enc := by simp [Tr.enc]
      replace HENC := Hid.mk HENC
      have HLEN : (Tr.two 7 TA TB).enc.length = 1 + la + lb := by simp [Tr.enc, hla, hlb]; omega
      replace HLEN := Hid.mk HLEN
      rw [hla] at CA lA
      rw [hlb] at CB lB
      replace hla := Hid.mk hla
      replace hlb := Hid.mk hlb
      clear hd hTA hTB hca ih hsz pA pB
      have B := Below.refl w.heap.size w
      have CK := l5Kids_ok 7
      rw [show kids 7 = 2 by unfold kids; simp] at CK
      replace CK := Hid.mk CK
      replace B := thenB B (belowA w (.cells #[.int .i64 7, .int .i64 (ja : Int), .int .i64 (jb : Int), .int .i64 xn] 70))
      have VX := V.new w [.int .i64 7, .int .i64 (ja : Int), .int .i64 (jb : Int), .int .i64 xn] 70
      have OO := Own.lit (w.alloc (.cells #[.int .i64 7, .int .i64 (ja : Int), .int .i64 (jb : Int), .int .i64 xn] 70)) 5 [7] (by unfold maxLen; decide)
      simp only [World.size_alloc, List.length_cons, List.length_nil] at OO
      replace VX := VX.kept (belowA (w.alloc (.cells #[.int .i64 7, .int .i64 (ja : Int), .int .i64 (jb : Int), .int .i64 xn] 70)) (.cells #[.int .u8 7] 5))
      replace B := thenB B (belowA (w.alloc (.cells #[.int .i64 7, .int .i64 (ja : Int), .int .i64 (jb : Int), .int .i64 xn] 70)) (.cells #[.int .u8 7] 5))
      have OQ := Hid.mk OO
      clear OO
      rcases HA.out.kept B with h0 | ⟨b2, o2, e2, hca2⟩
      · rw [h0] at hn; simp at hn; omega
      simp only [Option.some.injEq, Addr.mk.injEq, and_true] at e2
      obtain ⟨rfl, rfl⟩ := e2
      obtain ⟨_, _, _, ra3⟩ := RdTerm.cells hca2 ja (by omega) zA hzA
      obtain ⟨_, _, _, rb3⟩ := RdTerm.cells hca2 jb (by omega) zB hzB
      clear hzA hzB hca2
      obtain ⟨s_VX, f_VX, z_VX⟩ := VX.open
      go_enter Tryz.func31, Tryz.ntmps31
      go_wp2_with (first | (go_at_call 51; refine (CK.out _).mono ?_; rintro e wq ⟨rfl, rfl⟩) | fail)
      go_quiet (fail)
      clear s_VX f_VX z_VX
      have bq := belowN (Below.refl (((w.alloc (.cells #[.int .i64 7, .int .i64 (ja : Int), .int .i64 (jb : Int), .int .i64 xn] 70)).alloc (.cells #[.int .u8 7] 5))).heap.size (((w.alloc (.cells #[.int .i64 7, .int .i64 (ja : Int), .int .i64 (jb : Int), .int .i64 xn] 70)).alloc (.cells #[.int .u8 7] 5)))) nq
      have OR := Hid.mk (OQ.out.kept bq)
      have S0 := bq.size
      simp only [World.size_alloc] at S0
      replace VX := VX.kept bq
      replace B := thenB B bq
      clear bq OQ
      generalize World.drewN ((w.alloc (.cells #[.int .i64 7, .int .i64 (ja : Int), .int .i64 (jb : Int), .int .i64 xn] 70)).alloc (.cells #[.int .u8 7] 5)) nq = wn at *
      obtain ⟨s_VX, f_VX, z_VX⟩ := VX.open
      go_wp2_with (first | (go_at_call 51; refine (CK.out _).mono ?_; rintro e wq ⟨rfl, rfl⟩) | fail)
      refine (CA.out _ (HA.out.kept B)).mono ?_
      rintro e waa ⟨cwa, dwa, rfl, Owa, bwa⟩
      clear s_VX f_VX z_VX
      replace OR := Hid.mk (OR.out.kept bwa)
      have Nwa := Hid.mk Owa.nocap
      have Rwa := Hid.mk Owa.rd
      have S_wa := bwa.size
      replace VX := VX.kept bwa
      replace B := thenB B bwa
      clear bwa Owa
      replace B := Hid.mk B
      replace VX := Hid.mk VX
      go_wp2_with (at_builtin; go_loud (refine wpList_put _ rfl _ _ 22 rfl (w.heap.size + 1) 5 i0 Tryz.underlying22 hi q0 q1 q2 _ _ 1 _ rfl OR.out rfl _ la _ _ rfl Rwa.out hla.out Nwa.out (1 + la) ([7] ++ TA.enc) (by omega) rfl (by omega) (by omega) ?_))
      intro cwab dwab wab Owab bwab
      skip
      clear OR
      replace VX := VX.out.keptB (by omega) bwab
      replace B := B.out.trans (bwab.mono (by omega))
      have S_wab : waa.heap.size ≤ wab.heap.size ∨ True := .inr trivial
      have OR := Hid.mk Owab
      clear bwab Owab
      have hsz : w.heap.size + 1 ≤ wab.heap.size := by have := OR.out.lt; have h1 := VX.1; have h2 := OR.out.some_of (by simp); obtain ⟨g4, rfl, h3⟩ := h2; have := (OR.out.lt _ rfl).2; simp only at this; omega
      obtain ⟨s_VX, f_VX, z_VX⟩ := VX.open
      go_wp2_with (first | (go_at_call 51; refine (CK.out _).mono ?_; rintro e wq ⟨rfl, rfl⟩) | fail)
      refine (CB.out _ (HA.out.kept B)).mono ?_
      rintro e wba ⟨cwb, dwb, rfl, Owb, bwb⟩
      clear s_VX f_VX z_VX
      replace OR := Hid.mk (OR.out.kept bwb)
      have Nwb := Hid.mk Owb.nocap
      have Rwb := Hid.mk Owb.rd
      have S_wb := bwb.size
      replace VX := VX.kept bwb
      replace B := thenB B bwb
      clear bwb Owb
      replace B := Hid.mk B
      replace VX := Hid.mk VX
      go_wp2_with (at_builtin; go_loud (refine wpList_put _ rfl _ _ 22 rfl (w.heap.size + 1) 5 i0 Tryz.underlying22 hi q0 q1 q2 _ _ (1 + la) _ rfl OR.out (by simp [hla.out]; omega) _ lb _ _ rfl Rwb.out hlb.out Nwb.out (1 + la + lb) (([7] ++ TA.enc) ++ TB.enc) (by omega) rfl (by omega) (by omega) ?_))
      intro cwbb dwbb wbb Owbb bwbb
      skip
      clear OR
      replace VX := VX.out.keptB (by omega) bwbb
      replace B := B.out.trans (bwbb.mono (by omega))
      have S_wbb : wba.heap.size ≤ wbb.heap.size ∨ True := .inr trivial
      have OR := Hid.mk Owbb
      clear bwbb Owbb
      obtain ⟨s_VX, f_VX, z_VX⟩ := VX.open
      go_wp2
      go_ret
      rw [HLEN.out, HENC.out]
      exact ⟨cwbb, dwbb, rfl, OR.out.mono (Nat.le_succ _), B⟩
    · skip
      obtain ⟨ja, rfl⟩ : ∃ j : Nat, xa = (j : Int) := ⟨xa.toNat, by omega⟩
      obtain ⟨jb, rfl⟩ : ∃ j : Nat, xb = (j : Int) := ⟨xb.toNat, by omega⟩
      simp only [Int.toNat_natCast] at hd
      have hja : ja < k := by omega
      have hjb : jb < k := by omega
      have hjan : (ja : Int) < (n : Int) := by omega
      have hjbn : (jb : Int) < (n : Int) := by omega
      obtain ⟨zA, hzA⟩ : ∃ z, xs.getD ja zTerm = z := ⟨_, rfl⟩
      obtain ⟨zB, hzB⟩ : ∃ z, xs.getD jb zTerm = z := ⟨_, rfl⟩
      unfold tmAt at hcm
      simp only [Int.toNat_natCast] at hcm
      rw [hzA, hzB] at hcm
      have CA := ih jb (by omega) (by omega)
      have CB := ih ja (by omega) (by omega)
      obtain ⟨TA, hTA⟩ : ∃ t, den xs jb = t := ⟨_, rfl⟩
      obtain ⟨TB, hTB⟩ : ∃ t, den xs ja = t := ⟨_, rfl⟩
      rw [hTA] at CA
      rw [hTB] at CB
      rw [hTA, hTB] at hd
      rw [hd] at hsz ⊢
      simp only [Tr.sz] at hsz
      have pA := TA.sz_in
      have pB := TB.sz_in
      have lA : (TA.enc.length : Int) ≤ 600 := by have := TA.enc_len (by omega); omega
      have lB : (TB.enc.length : Int) ≤ 600 := by have := TB.enc_len (by omega); omega
      replace CA := Hid.mk (CA (by omega))
      replace CB := Hid.mk (CB (by omega))
      obtain ⟨la, hla⟩ : ∃ l, TA.enc.length = l := ⟨_, rfl⟩
      obtain ⟨lb, hlb⟩ : ∃ l, TB.enc.length = l := ⟨_, rfl⟩
      have HENC : (Tr.two 7 TA TB).enc = ([7] ++ TA.enc) ++ TB.enc := by simp [Tr.enc]
      replace HENC := Hid.mk HENC
      have HLEN : (Tr.two 7 TA TB).enc.length = 1 + la + lb := by simp [Tr.enc, hla, hlb]; omega
      replace HLEN := Hid.mk HLEN
      rw [hla] at CA lA
      rw [hlb] at CB lB
      replace hla := Hid.mk hla
      replace hlb := Hid.mk hlb
      clear hd hTA hTB hca ih hsz pA pB
      have B := Below.refl w.heap.size w
      have CK := l5Kids_ok 7
      rw [show kids 7 = 2 by unfold kids; simp] at CK
      replace CK := Hid.mk CK
      replace B := thenB B (belowA w (.cells #[.int .i64 7, .int .i64 (ja : Int), .int .i64 (jb : Int), .int .i64 xn] 70))
      have VX := V.new w [.int .i64 7, .int .i64 (ja : Int), .int .i64 (jb : Int), .int .i64 xn] 70
      have OO := Own.lit (w.alloc (.cells #[.int .i64 7, .int .i64 (ja : Int), .int .i64 (jb : Int), .int .i64 xn] 70)) 5 [7] (by unfold maxLen; decide)
      simp only [World.size_alloc, List.length_cons, List.length_nil] at OO
      replace VX := VX.kept (belowA (w.alloc (.cells #[.int .i64 7, .int .i64 (ja : Int), .int .i64 (jb : Int), .int .i64 xn] 70)) (.cells #[.int .u8 7] 5))
      replace B := thenB B (belowA (w.alloc (.cells #[.int .i64 7, .int .i64 (ja : Int), .int .i64 (jb : Int), .int .i64 xn] 70)) (.cells #[.int .u8 7] 5))
      have OQ := Hid.mk OO
      clear OO
      rcases HA.out.kept B with h0 | ⟨b2, o2, e2, hca2⟩
      · rw [h0] at hn; simp at hn; omega
      simp only [Option.some.injEq, Addr.mk.injEq, and_true] at e2
      obtain ⟨rfl, rfl⟩ := e2
      obtain ⟨_, _, _, ra3⟩ := RdTerm.cells hca2 ja (by omega) zA hzA
      obtain ⟨_, _, _, rb3⟩ := RdTerm.cells hca2 jb (by omega) zB hzB
      clear hzA hzB hca2
      obtain ⟨s_VX, f_VX, z_VX⟩ := VX.open
      go_enter Tryz.func31, Tryz.ntmps31
      go_wp2_with (first | (go_at_call 51; refine (CK.out _).mono ?_; rintro e wq ⟨rfl, rfl⟩) | fail)
      go_quiet (fail)
      clear s_VX f_VX z_VX
      have bq := belowN (Below.refl (((w.alloc (.cells #[.int .i64 7, .int .i64 (ja : Int), .int .i64 (jb : Int), .int .i64 xn] 70)).alloc (.cells #[.int .u8 7] 5))).heap.size (((w.alloc (.cells #[.int .i64 7, .int .i64 (ja : Int), .int .i64 (jb : Int), .int .i64 xn] 70)).alloc (.cells #[.int .u8 7] 5)))) nq
      have OR := Hid.mk (OQ.out.kept bq)
      have S0 := bq.size
      simp only [World.size_alloc] at S0
      replace VX := VX.kept bq
      replace B := thenB B bq
      clear bq OQ
      generalize World.drewN ((w.alloc (.cells #[.int .i64 7, .int .i64 (ja : Int), .int .i64 (jb : Int), .int .i64 xn] 70)).alloc (.cells #[.int .u8 7] 5)) nq = wn at *
      obtain ⟨s_VX, f_VX, z_VX⟩ := VX.open
      go_wp2_with (first | (go_at_call 51; refine (CK.out _).mono ?_; rintro e wq ⟨rfl, rfl⟩) | fail)
      refine (CA.out _ (HA.out.kept B)).mono ?_
      rintro e waa ⟨cwa, dwa, rfl, Owa, bwa⟩
      clear s_VX f_VX z_VX
      replace OR := Hid.mk (OR.out.kept bwa)
      have Nwa := Hid.mk Owa.nocap
      have Rwa := Hid.mk Owa.rd
      have S_wa := bwa.size
      replace VX := VX.kept bwa
      replace B := thenB B bwa
      clear bwa Owa
      replace B := Hid.mk B
      replace VX := Hid.mk VX
      go_wp2_with (at_builtin; go_loud (refine wpList_put _ rfl _ _ 22 rfl (w.heap.size + 1) 5 i0 Tryz.underlying22 hi q0 q1 q2 _ _ 1 _ rfl OR.out rfl _ la _ _ rfl Rwa.out hla.out Nwa.out (1 + la) ([7] ++ TA.enc) (by omega) rfl (by omega) (by omega) ?_))
      intro cwab dwab wab Owab bwab
      skip
      clear OR
      replace VX := VX.out.keptB (by omega) bwab
      replace B := B.out.trans (bwab.mono (by omega))
      have S_wab : waa.heap.size ≤ wab.heap.size ∨ True := .inr trivial
      have OR := Hid.mk Owab
      clear bwab Owab
      have hsz : w.heap.size + 1 ≤ wab.heap.size := by have := OR.out.lt; have h1 := VX.1; have h2 := OR.out.some_of (by simp); obtain ⟨g4, rfl, h3⟩ := h2; have := (OR.out.lt _ rfl).2; simp only at this; omega
      obtain ⟨s_VX, f_VX, z_VX⟩ := VX.open
      go_wp2_with (first | (go_at_call 51; refine (CK.out _).mono ?_; rintro e wq ⟨rfl, rfl⟩) | fail)
      refine (CB.out _ (HA.out.kept B)).mono ?_
      rintro e wba ⟨cwb, dwb, rfl, Owb, bwb⟩
      clear s_VX f_VX z_VX
      replace OR := Hid.mk (OR.out.kept bwb)
      have Nwb := Hid.mk Owb.nocap
      have Rwb := Hid.mk Owb.rd
      have S_wb := bwb.size
      replace VX := VX.kept bwb
      replace B := thenB B bwb
      clear bwb Owb
      replace B := Hid.mk B
      replace VX := Hid.mk VX
      go_wp2_with (at_builtin; go_loud (refine wpList_put _ rfl _ _ 22 rfl (w.heap.size + 1) 5 i0 Tryz.underlying22 hi q0 q1 q2 _ _ (1 + la) _ rfl OR.out (by simp [hla.out]; omega) _ lb _ _ rfl Rwb.out hlb.out Nwb.out (1 + la + lb) (([7] ++ TA.enc) ++ TB.enc) (by omega) rfl (by omega) (by omega) ?_))
      intro cwbb dwbb wbb Owbb bwbb
      skip
      clear OR
      replace VX := VX.out.keptB (by omega) bwbb
      replace B := B.out.trans (bwbb.mono (by omega))
      have S_wbb : wba.heap.size ≤ wbb.heap.size ∨ True := .inr trivial
      have OR := Hid.mk Owbb
      clear bwbb Owbb
      obtain ⟨s_VX, f_VX, z_VX⟩ := VX.open
      go_wp2
      go_ret
      rw [HLEN.out, HENC.out]
      exact ⟨cwbb, dwbb, rfl, OR.out.mono (Nat.le_succ _), B⟩

end Go.Proofs.YtfldgeokigcokaaGreat
