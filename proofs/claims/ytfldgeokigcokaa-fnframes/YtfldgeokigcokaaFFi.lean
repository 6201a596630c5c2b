/- Put together: WrE, WrF, WrI, WrS. -/
import Derived.Test.YtfldgeokigcokaaWrD
import Derived.Test.YtfldgeokigcokaaWrC
import Derived.Test.YtfldgeokigcokaaFFk
import Derived.Test.YtfldgeokigcokaaHeld
import Derived.Test.YtfldgeokigcokaaHeldR
import Derived.Test.YtfldgeokigcokaaWrB

/- A term as bytes: the model. -/
namespace Go.Proofs.Ytfldgeokigcokaa
open Go.RowKit

/-- What a right table's term is made of, by its Op. -/
theorem den_kinds {xs : List T4} (h : tfC xs = 0) (k : Nat) (hk : k < xs.length) (o a b n : Int) (hx : xs.getD k zTerm = ⟨o, a, b, n⟩) :
    ((o = 1 ∨ o = 2) ∧ den xs k = .leaf o n ∧ 0 ≤ n ∧ n ≤ 9999)
    ∨ (o = 6 ∧ den xs k = .one 6 (den xs a.toNat) ∧ 0 ≤ a ∧ a < k)
    ∨ ((o = 3 ∨ o = 4 ∨ o = 5) ∧ den xs k = .two o (den xs a.toNat) (den xs b.toNat) ∧ (0 ≤ a ∧ a < k) ∧ 0 ≤ b ∧ b < k)
    ∨ (o = 7 ∧ ¬ (tmAt xs b).n < (tmAt xs a).n ∧ den xs k = .two 7 (den xs a.toNat) (den xs b.toNat) ∧ (0 ≤ a ∧ a < k) ∧ 0 ≤ b ∧ b < k)
    ∨ (o = 7 ∧ (tmAt xs b).n < (tmAt xs a).n ∧ den xs k = .two 7 (den xs b.toNat) (den xs a.toNat) ∧ (0 ≤ a ∧ a < k) ∧ 0 ≤ b ∧ b < k) := by
  have HA := tfC_ahead h
  have N := tfC_nice h
  obtain ⟨h1, h2⟩ := HA k hk
  have R := N.rise k hk
  have z := tm_zero ((tfC_zero h).2 k hk).1
  have d := den_at k hk HA
  rw [hx] at h1 h2 R z d
  simp only at h1 h2 R z d
  unfold mkTr at d
  simp only at d
  rcases kids_ways o with ⟨e, hk2⟩ | ⟨e, hk2⟩ | ⟨e, hk2⟩ | ⟨e, hk2⟩ | ⟨e, hk2⟩ | ⟨e3, e4, e5, e7, e6, hk2⟩
  iterate 3
    · have a1 := h1 (by omega)
      have a2 := h2 (by omega)
      rw [if_pos hk2, if_neg (fun hh => by omega)] at d
      exact .inr (.inr (.inl ⟨by omega, d, a1, a2⟩))
  · have a1 := h1 (by omega)
    have a2 := h2 (by omega)
    obtain ⟨r1, r2, _⟩ := R e
    have f1 := den_fresh a.toNat (by omega) HA r1
    have f2 := den_fresh b.toNat (by omega) HA r2
    have n1 : (den xs a.toNat).num = (tmAt xs a).n := by rw [f1]; rfl
    have n2 : (den xs b.toNat).num = (tmAt xs b).n := by rw [f2]; rfl
    rw [if_pos hk2, n1, n2] at d
    by_cases hc : (tmAt xs b).n < (tmAt xs a).n
    · rw [if_pos ⟨e, hc⟩, e] at d
      exact .inr (.inr (.inr (.inr ⟨e, hc, d, a1, a2⟩)))
    · rw [if_neg (fun hh => hc hh.2), e] at d
      exact .inr (.inr (.inr (.inl ⟨e, hc, d, a1, a2⟩)))
  · have a1 := h1 (by omega)
    rw [if_neg (by omega), if_pos hk2, e] at d
    exact .inr (.inl ⟨e, d, a1⟩)
  · rw [if_neg (by omega), if_neg (by omega)] at d
    exact .inl ⟨by omega, d, z.2.1⟩

set_option maxRecDepth 20000 in
set_option maxHeartbeats 16000000 in
theorem l7Encode_ok (a : Option Addr) (n ca : Nat) (xs : List T4) (hn : xs.length = n) (hv : tfC xs = 0) : ∀ k : Nat, k < n → (den xs k).sz ≤ 200 → ∀ w : World, RdTerm w a xs →
    Calls Try.prog 57 #[.slice a n ca, .int .i64 (k : Int)] w fun e w' => ∃ c d, e = .returned (.slice c (den xs k).enc.length d) ∧ Own .u8 5 w' w.heap.size c d (den xs k).enc ∧ Below w.heap.size w w' := by
  obtain ⟨i0, hi, q0, q1, q2⟩ := info_parts Try.info_u8
  have hn4 : n ≤ 400 := by have := (tfC_zero hv).1; omega
  intro k
  induction k using Nat.strongRecOn with
  | ind k ih =>
    intro hk hsz w ha
    have hk1 : (k : Int) < (n : Int) := by omega
    obtain ⟨⟨xo, xa, xb, xn⟩, hx⟩ : ∃ x, xs.getD k zTerm = x := ⟨_, rfl⟩
    have HW := den_kinds hv k (by omega) xo xa xb xn hx
    have HA := Hid.mk ha
    rcases ha with h0 | ⟨b1, o1, rfl, hca⟩
    · rw [h0] at hn; simp at hn; omega
    obtain ⟨p0, p1, p2, p3⟩ := RdTerm.cells hca k (by omega) _ hx
    simp only at p0 p1 p2 p3
    clear hx
    rcases HW with ⟨rfl | rfl, hd, hn0, hn9⟩ | ⟨rfl, hd, ha0, hak⟩ | ⟨rfl | rfl | rfl, hd, ⟨ha0, hak⟩, hb0, hbk⟩ | ⟨rfl, hcm, hd, ⟨ha0, hak⟩, hb0, hbk⟩ | ⟨rfl, hcm, hd, ⟨ha0, hak⟩, hb0, hbk⟩
    · skip
      rw [hd]
      have HENC : (Tr.leaf 1 xn).enc = [1] ++ putN xn 2 := by rw [putN_of2]; rfl
      replace HENC := Hid.mk HENC
      have HLEN : (Tr.leaf 1 xn).enc.length = 3 := rfl
      replace HLEN := Hid.mk HLEN
      clear hd hca ih hsz
      have B := Below.refl w.heap.size w
      have CK := l5Kids_ok 1
      rw [show kids 1 = 0 by unfold kids; simp] at CK
      replace CK := Hid.mk CK
      replace B := thenB B (belowA w (.cells #[.int .i64 1, .int .i64 xa, .int .i64 xb, .int .i64 xn] 83))
      have VX := V.new w [.int .i64 1, .int .i64 xa, .int .i64 xb, .int .i64 xn] 83
      have OO := Own.lit (w.alloc (.cells #[.int .i64 1, .int .i64 xa, .int .i64 xb, .int .i64 xn] 83)) 5 [1] (by unfold maxLen; decide)
      simp only [World.size_alloc, List.length_cons, List.length_nil] at OO
      replace VX := VX.kept (belowA (w.alloc (.cells #[.int .i64 1, .int .i64 xa, .int .i64 xb, .int .i64 xn] 83)) (.cells #[.int .u8 1] 5))
      replace B := thenB B (belowA (w.alloc (.cells #[.int .i64 1, .int .i64 xa, .int .i64 xb, .int .i64 xn] 83)) (.cells #[.int .u8 1] 5))
      have OQ := Hid.mk OO
      clear OO
      obtain ⟨s_VX, f_VX, z_VX⟩ := VX.open
      go_enter Try.func57, Try.ntmps57
      go_wp2_with (first | (go_at_call 82; refine (CK.out _).mono ?_; rintro e wq ⟨rfl, rfl⟩) | fail)
      refine (l1Bytes_ok xn 2 _ (by omega) (by omega)).mono ?_
      rintro e w1 ⟨c1, d1, rfl, O1, b1⟩
      clear s_VX f_VX z_VX
      have OR := Hid.mk (OQ.out.kept b1)
      have O1r := Hid.mk O1.rd
      have O1n := Hid.mk O1.nocap
      have S1 := b1.size
      simp only [World.size_alloc] at S1
      replace B := Hid.mk (thenB B b1)
      clear b1 O1 OQ VX
      go_wp2_with (at_builtin; go_loud (refine wpList_put _ rfl _ _ 22 rfl (w.heap.size + 1) 5 i0 Try.underlying22 hi q0 q1 q2 _ _ 1 _ rfl OR.out rfl _ 2 _ _ rfl O1r.out (length_putN _ _) O1n.out 3 ([1] ++ putN xn 2) (by omega) rfl (by omega) (by omega) ?_))
      intro c2 d2 w2 O2 b2
      have BF := Hid.mk (B.out.trans (b2.mono (by omega)))
      have O3 := Hid.mk (O2.mono (Nat.le_succ _))
      clear b2 O2
      go_wp2
      go_ret
      rw [HLEN.out, HENC.out]
      exact ⟨c2, d2, rfl, O3.out, BF.out⟩
    · skip
      rw [hd]
      have HENC : (Tr.leaf 2 xn).enc = [2] ++ putN xn 2 := by rw [putN_of2]; rfl
      replace HENC := Hid.mk HENC
      have HLEN : (Tr.leaf 2 xn).enc.length = 3 := rfl
      replace HLEN := Hid.mk HLEN
      clear hd hca ih hsz
      have B := Below.refl w.heap.size w
      have CK := l5Kids_ok 2
      rw [show kids 2 = 0 by unfold kids; simp] at CK
      replace CK := Hid.mk CK
      replace B := thenB B (belowA w (.cells #[.int .i64 2, .int .i64 xa, .int .i64 xb, .int .i64 xn] 83))
      have VX := V.new w [.int .i64 2, .int .i64 xa, .int .i64 xb, .int .i64 xn] 83
      have OO := Own.lit (w.alloc (.cells #[.int .i64 2, .int .i64 xa, .int .i64 xb, .int .i64 xn] 83)) 5 [2] (by unfold maxLen; decide)
      simp only [World.size_alloc, List.length_cons, List.length_nil] at OO
      replace VX := VX.kept (belowA (w.alloc (.cells #[.int .i64 2, .int .i64 xa, .int .i64 xb, .int .i64 xn] 83)) (.cells #[.int .u8 2] 5))
      replace B := thenB B (belowA (w.alloc (.cells #[.int .i64 2, .int .i64 xa, .int .i64 xb, .int .i64 xn] 83)) (.cells #[.int .u8 2] 5))
      have OQ := Hid.mk OO
      clear OO
      obtain ⟨s_VX, f_VX, z_VX⟩ := VX.open
      go_enter Try.func57, Try.ntmps57
      go_wp2_with (first | (go_at_call 82; refine (CK.out _).mono ?_; rintro e wq ⟨rfl, rfl⟩) | fail)
      refine (l1Bytes_ok xn 2 _ (by omega) (by omega)).mono ?_
      rintro e w1 ⟨c1, d1, rfl, O1, b1⟩
      clear s_VX f_VX z_VX
      have OR := Hid.mk (OQ.out.kept b1)
      have O1r := Hid.mk O1.rd
      have O1n := Hid.mk O1.nocap
      have S1 := b1.size
      simp only [World.size_alloc] at S1
      replace B := Hid.mk (thenB B b1)
      clear b1 O1 OQ VX
      go_wp2_with (at_builtin; go_loud (refine wpList_put _ rfl _ _ 22 rfl (w.heap.size + 1) 5 i0 Try.underlying22 hi q0 q1 q2 _ _ 1 _ rfl OR.out rfl _ 2 _ _ rfl O1r.out (length_putN _ _) O1n.out 3 ([2] ++ putN xn 2) (by omega) rfl (by omega) (by omega) ?_))
      intro c2 d2 w2 O2 b2
      have BF := Hid.mk (B.out.trans (b2.mono (by omega)))
      have O3 := Hid.mk (O2.mono (Nat.le_succ _))
      clear b2 O2
      go_wp2
      go_ret
      rw [HLEN.out, HENC.out]
      exact ⟨c2, d2, rfl, O3.out, BF.out⟩
    · skip
      obtain ⟨ja, rfl⟩ : ∃ j : Nat, xa = (j : Int) := ⟨xa.toNat, by omega⟩
      simp only [Int.toNat_natCast] at hd
      have hja : ja < k := by omega
      have hjan : (ja : Int) < (n : Int) := by omega
      have CA := ih ja (by omega) (by omega)
      obtain ⟨TA, hTA⟩ : ∃ t, den xs ja = t := ⟨_, rfl⟩
      rw [hTA] at CA hd
      rw [hd] at hsz ⊢
      simp only [Tr.sz] at hsz
      have pA := TA.sz_in
      have lA : (TA.enc.length : Int) ≤ 600 := by have := TA.enc_len (by omega); omega
      replace CA := Hid.mk (CA (by omega))
      obtain ⟨la, hla⟩ : ∃ l, TA.enc.length = l := ⟨_, rfl⟩
      have HENC : (Tr.one 6 TA).enc = [6] ++ TA.enc := by simp [Tr.enc]
      replace HENC := Hid.mk HENC
      have HLEN : (Tr.one 6 TA).enc.length = 1 + la := by simp [Tr.enc, hla]; omega
      replace HLEN := Hid.mk HLEN
      rw [hla] at CA lA
      replace hla := Hid.mk hla
      clear hd hTA hca ih hsz pA
      have B := Below.refl w.heap.size w
      have CK := l5Kids_ok 6
      rw [show kids 6 = 1 by unfold kids; simp] at CK
      replace CK := Hid.mk CK
      replace B := thenB B (belowA w (.cells #[.int .i64 6, .int .i64 (ja : Int), .int .i64 xb, .int .i64 xn] 83))
      have VX := V.new w [.int .i64 6, .int .i64 (ja : Int), .int .i64 xb, .int .i64 xn] 83
      have OO := Own.lit (w.alloc (.cells #[.int .i64 6, .int .i64 (ja : Int), .int .i64 xb, .int .i64 xn] 83)) 5 [6] (by unfold maxLen; decide)
      simp only [World.size_alloc, List.length_cons, List.length_nil] at OO
      replace VX := VX.kept (belowA (w.alloc (.cells #[.int .i64 6, .int .i64 (ja : Int), .int .i64 xb, .int .i64 xn] 83)) (.cells #[.int .u8 6] 5))
      replace B := thenB B (belowA (w.alloc (.cells #[.int .i64 6, .int .i64 (ja : Int), .int .i64 xb, .int .i64 xn] 83)) (.cells #[.int .u8 6] 5))
      have OQ := Hid.mk OO
      clear OO
      obtain ⟨s_VX, f_VX, z_VX⟩ := VX.open
      go_enter Try.func57, Try.ntmps57
      go_wp2_with (first | (go_at_call 82; refine (CK.out _).mono ?_; rintro e wq ⟨rfl, rfl⟩) | fail)
      go_quiet (fail)
      clear s_VX f_VX z_VX
      have bq := belowN (Below.refl (((w.alloc (.cells #[.int .i64 6, .int .i64 (ja : Int), .int .i64 xb, .int .i64 xn] 83)).alloc (.cells #[.int .u8 6] 5))).heap.size (((w.alloc (.cells #[.int .i64 6, .int .i64 (ja : Int), .int .i64 xb, .int .i64 xn] 83)).alloc (.cells #[.int .u8 6] 5)))) nq
      have OR := Hid.mk (OQ.out.kept bq)
      have S0 := bq.size
      simp only [World.size_alloc] at S0
      replace VX := VX.kept bq
      replace B := thenB B bq
      clear bq OQ
      generalize World.drewN ((w.alloc (.cells #[.int .i64 6, .int .i64 (ja : Int), .int .i64 xb, .int .i64 xn] 83)).alloc (.cells #[.int .u8 6] 5)) nq = wn at *
      obtain ⟨s_VX, f_VX, z_VX⟩ := VX.open
      go_wp2_with (first | (go_at_call 82; refine (CK.out _).mono ?_; rintro e wq ⟨rfl, rfl⟩) | fail)
      refine (CA.out _ (HA.out.kept B)).mono ?_
      rintro e waa ⟨cwa, dwa, rfl, Owa, bwa⟩
      clear s_VX f_VX z_VX
      replace OR := Hid.mk (OR.out.kept bwa)
      have Nwa := Hid.mk Owa.nocap
      have Rwa := Hid.mk Owa.rd
      have S_wa := bwa.size
      replace VX := VX.kept bwa
      replace B := thenB B bwa
      clear bwa Owa
      replace B := Hid.mk B
      replace VX := Hid.mk VX
      go_wp2_with (at_builtin; go_loud (refine wpList_put _ rfl _ _ 22 rfl (w.heap.size + 1) 5 i0 Try.underlying22 hi q0 q1 q2 _ _ 1 _ rfl OR.out rfl _ la _ _ rfl Rwa.out hla.out Nwa.out (1 + la) ([6] ++ TA.enc) (by omega) rfl (by omega) (by omega) ?_))
      intro cwab dwab wab Owab bwab
      skip
      clear OR
      replace VX := VX.out.keptB (by omega) bwab
      replace B := B.out.trans (bwab.mono (by omega))
      have S_wab : waa.heap.size ≤ wab.heap.size ∨ True := .inr trivial
      have OR := Hid.mk Owab
      clear bwab Owab
      have hsz : w.heap.size + 1 ≤ wab.heap.size := by have := OR.out.lt; have h1 := VX.1; have h2 := OR.out.some_of (by simp); obtain ⟨g4, rfl, h3⟩ := h2; have := (OR.out.lt _ rfl).2; simp only at this; omega
      obtain ⟨s_VX, f_VX, z_VX⟩ := VX.open
      go_wp2_with (first | (go_at_call 82; refine (CK.out _).mono ?_; rintro e wq ⟨rfl, rfl⟩) | fail)
      go_ret
      rw [HLEN.out, HENC.out]
      exact ⟨cwab, dwab, rfl, OR.out.mono (Nat.le_succ _), B⟩
    · skip
      obtain ⟨ja, rfl⟩ : ∃ j : Nat, xa = (j : Int) := ⟨xa.toNat, by omega⟩
      obtain ⟨jb, rfl⟩ : ∃ j : Nat, xb = (j : Int) := ⟨xb.toNat, by omega⟩
      simp only [Int.toNat_natCast] at hd
      have hja : ja < k := by omega
      have hjb : jb < k := by omega
      have hjan : (ja : Int) < (n : Int) := by omega
      have hjbn : (jb : Int) < (n : Int) := by omega
      have CA := ih ja (by omega) (by omega)
      have CB := ih jb (by omega) (by omega)
      obtain ⟨TA, hTA⟩ : ∃ t, den xs ja = t := ⟨_, rfl⟩
      obtain ⟨TB, hTB⟩ : ∃ t, den xs jb = t := ⟨_, rfl⟩
      rw [hTA] at CA
      rw [hTB] at CB
      rw [hTA, hTB] at hd
      rw [hd] at hsz ⊢
      simp only [Tr.sz] at hsz
      have pA := TA.sz_in
      have pB := TB.sz_in
      have lA : (TA.enc.length : Int) ≤ 600 := by have := TA.enc_len (by omega); omega
      have lB : (TB.enc.length : Int) ≤ 600 := by have := TB.enc_len (by omega); omega
      replace CA := Hid.mk (CA (by omega))
      replace CB := Hid.mk (CB (by omega))
      obtain ⟨la, hla⟩ : ∃ l, TA.enc.length = l := ⟨_, rfl⟩
      obtain ⟨lb, hlb⟩ : ∃ l, TB.enc.length = l := ⟨_, rfl⟩
      have HENC : (Tr.two 3 TA TB).enc = ([3] ++ TA.enc) ++ TB.enc := by simp [Tr.enc]
      replace HENC := Hid.mk HENC
      have HLEN : (Tr.two 3 TA TB).enc.length = 1 + la + lb := by simp [Tr.enc, hla, hlb]; omega
      replace HLEN := Hid.mk HLEN
      rw [hla] at CA lA
      rw [hlb] at CB lB
      replace hla := Hid.mk hla
      replace hlb := Hid.mk hlb
      clear hd hTA hTB hca ih hsz pA pB
      have B := Below.refl w.heap.size w
      have CK := l5Kids_ok 3
      rw [show kids 3 = 2 by unfold kids; simp] at CK
      replace CK := Hid.mk CK
      replace B := thenB B (belowA w (.cells #[.int .i64 3, .int .i64 (ja : Int), .int .i64 (jb : Int), .int .i64 xn] 83))
      have VX := V.new w [.int .i64 3, .int .i64 (ja : Int), .int .i64 (jb : Int), .int .i64 xn] 83
      have OO := Own.lit (w.alloc (.cells #[.int .i64 3, .int .i64 (ja : Int), .int .i64 (jb : Int), .int .i64 xn] 83)) 5 [3] (by unfold maxLen; decide)
      simp only [World.size_alloc, List.length_cons, List.length_nil] at OO
      replace VX := VX.kept (belowA (w.alloc (.cells #[.int .i64 3, .int .i64 (ja : Int), .int .i64 (jb : Int), .int .i64 xn] 83)) (.cells #[.int .u8 3] 5))
      replace B := thenB B (belowA (w.alloc (.cells #[.int .i64 3, .int .i64 (ja : Int), .int .i64 (jb : Int), .int .i64 xn] 83)) (.cells #[.int .u8 3] 5))
      have OQ := Hid.mk OO
      clear OO
      obtain ⟨s_VX, f_VX, z_VX⟩ := VX.open
      go_enter Try.func57, Try.ntmps57
      go_wp2_with (first | (go_at_call 82; refine (CK.out _).mono ?_; rintro e wq ⟨rfl, rfl⟩) | fail)
      go_quiet (fail)
      clear s_VX f_VX z_VX
      have bq := belowN (Below.refl (((w.alloc (.cells #[.int .i64 3, .int .i64 (ja : Int), .int .i64 (jb : Int), .int .i64 xn] 83)).alloc (.cells #[.int .u8 3] 5))).heap.size (((w.alloc (.cells #[.int .i64 3, .int .i64 (ja : Int), .int .i64 (jb : Int), .int .i64 xn] 83)).alloc (.cells #[.int .u8 3] 5)))) nq
      have OR := Hid.mk (OQ.out.kept bq)
      have S0 := bq.size
      simp only [World.size_alloc] at S0
      replace VX := VX.kept bq
      replace B := thenB B bq
      clear bq OQ
      generalize World.drewN ((w.alloc (.cells #[.int .i64 3, .int .i64 (ja : Int), .int .i64 (jb : Int), .int .i64 xn] 83)).alloc (.cells #[.int .u8 3] 5)) nq = wn at *
      obtain ⟨s_VX, f_VX, z_VX⟩ := VX.open
      go_wp2_with (first | (go_at_call 82; refine (CK.out _).mono ?_; rintro e wq ⟨rfl, rfl⟩) | fail)
      refine (CA.out _ (HA.out.kept B)).mono ?_
      rintro e waa ⟨cwa, dwa, rfl, Owa, bwa⟩
      clear s_VX f_VX z_VX
      replace OR := Hid.mk (OR.out.kept bwa)
      have Nwa := Hid.mk Owa.nocap
      have Rwa := Hid.mk Owa.rd
      have S_wa := bwa.size
      replace VX := VX.kept bwa
      replace B := thenB B bwa
      clear bwa Owa
      replace B := Hid.mk B
      replace VX := Hid.mk VX
      go_wp2_with (at_builtin; go_loud (refine wpList_put _ rfl _ _ 22 rfl (w.heap.size + 1) 5 i0 Try.underlying22 hi q0 q1 q2 _ _ 1 _ rfl OR.out rfl _ la _ _ rfl Rwa.out hla.out Nwa.out (1 + la) ([3] ++ TA.enc) (by omega) rfl (by omega) (by omega) ?_))
      intro cwab dwab wab Owab bwab
      skip
      clear OR
      replace VX := VX.out.keptB (by omega) bwab
      replace B := B.out.trans (bwab.mono (by omega))
      have S_wab : waa.heap.size ≤ wab.heap.size ∨ True := .inr trivial
      have OR := Hid.mk Owab
      clear bwab Owab
      have hsz : w.heap.size + 1 ≤ wab.heap.size := by have := OR.out.lt; have h1 := VX.1; have h2 := OR.out.some_of (by simp); obtain ⟨g4, rfl, h3⟩ := h2; have := (OR.out.lt _ rfl).2; simp only at this; omega
      obtain ⟨s_VX, f_VX, z_VX⟩ := VX.open
      go_wp2_with (first | (go_at_call 82; refine (CK.out _).mono ?_; rintro e wq ⟨rfl, rfl⟩) | fail)
      refine (CB.out _ (HA.out.kept B)).mono ?_
      rintro e wba ⟨cwb, dwb, rfl, Owb, bwb⟩
      clear s_VX f_VX z_VX
      replace OR := Hid.mk (OR.out.kept bwb)
      have Nwb := Hid.mk Owb.nocap
      have Rwb := Hid.mk Owb.rd
      have S_wb := bwb.size
      replace VX := VX.kept bwb
      replace B := thenB B bwb
      clear bwb Owb
      replace B := Hid.mk B
      replace VX := Hid.mk VX
      go_wp2_with (at_builtin; go_loud (refine wpList_put _ rfl _ _ 22 rfl (w.heap.size + 1) 5 i0 Try.underlying22 hi q0 q1 q2 _ _ (1 + la) _ rfl OR.out (by simp [hla.out]; omega) _ lb _ _ rfl Rwb.out hlb.out Nwb.out (1 + la + lb) (([3] ++ TA.enc) ++ TB.enc) (by omega) rfl (by omega) (by omega) ?_))
      intro cwbb dwbb wbb Owbb bwbb
      skip
      clear OR
      replace VX := VX.out.keptB (by omega) bwbb
      replace B := B.out.trans (bwbb.mono (by omega))
      have S_wbb : wba.heap.size ≤ wbb.heap.size ∨ True := .inr trivial
      have OR := Hid.mk Owbb
      clear bwbb Owbb
      obtain ⟨s_VX, f_VX, z_VX⟩ := VX.open
      go_wp2
      go_ret
      rw [HLEN.out, HENC.out]
      exact ⟨cwbb, dwbb, rfl, OR.out.mono (Nat.le_succ _), B⟩
    · skip
      obtain ⟨ja, rfl⟩ : ∃ j : Nat, xa = (j : Int) := ⟨xa.toNat, by omega⟩
      obtain ⟨jb, rfl⟩ : ∃ j : Nat, xb = (j : Int) := ⟨xb.toNat, by omega⟩
      simp only [Int.toNat_natCast] at hd
      have hja : ja < k := by omega
      have hjb : jb < k := by omega
      have hjan : (ja : Int) < (n : Int) := by omega
      have hjbn : (jb : Int) < (n : Int) := by omega
      have CA := ih ja (by omega) (by omega)
      have CB := ih jb (by omega) (by omega)
      obtain ⟨TA, hTA⟩ : ∃ t, den xs ja = t := ⟨_, rfl⟩
      obtain ⟨TB, hTB⟩ : ∃ t, den xs jb = t := ⟨_, rfl⟩
      rw [hTA] at CA
      rw [hTB] at CB
      rw [hTA, hTB] at hd
      rw [hd] at hsz ⊢
      simp only [Tr.sz] at hsz
      have pA := TA.sz_in
      have pB := TB.sz_in
      have lA : (TA.enc.length : Int) ≤ 600 := by have := TA.enc_len (by omega); omega
      have lB : (TB.enc.length : Int) ≤ 600 := by have := TB.enc_len (by omega); omega
      replace CA := Hid.mk (CA (by omega))
      replace CB := Hid.mk (CB (by omega))
      obtain ⟨la, hla⟩ : ∃ l, TA.enc.length = l := ⟨_, rfl⟩
      obtain ⟨lb, hlb⟩ : ∃ l, TB.enc.length = l := ⟨_, rfl⟩
      have HENC : (Tr.two 4 TA TB).enc = ([4] ++ TA.enc) ++ TB.enc := by simp [Tr.enc]
      replace HENC := Hid.mk HENC
      have HLEN : (Tr.two 4 TA TB).enc.length = 1 + la + lb := by simp [Tr.enc, hla, hlb]; omega
      replace HLEN := Hid.mk HLEN
      rw [hla] at CA lA
      rw [hlb] at CB lB
      replace hla := Hid.mk hla
      replace hlb := Hid.mk hlb
      clear hd hTA hTB hca ih hsz pA pB
      have B := Below.refl w.heap.size w
      have CK := l5Kids_ok 4
      rw [show kids 4 = 2 by unfold kids; simp] at CK
      replace CK := Hid.mk CK
      replace B := thenB B (belowA w (.cells #[.int .i64 4, .int .i64 (ja : Int), .int .i64 (jb : Int), .int .i64 xn] 83))
      have VX := V.new w [.int .i64 4, .int .i64 (ja : Int), .int .i64 (jb : Int), .int .i64 xn] 83
      have OO := Own.lit (w.alloc (.cells #[.int .i64 4, .int .i64 (ja : Int), .int .i64 (jb : Int), .int .i64 xn] 83)) 5 [4] (by unfold maxLen; decide)
      simp only [World.size_alloc, List.length_cons, List.length_nil] at OO
      replace VX := VX.kept (belowA (w.alloc (.cells #[.int .i64 4, .int .i64 (ja : Int), .int .i64 (jb : Int), .int .i64 xn] 83)) (.cells #[.int .u8 4] 5))
      replace B := thenB B (belowA (w.alloc (.cells #[.int .i64 4, .int .i64 (ja : Int), .int .i64 (jb : Int), .int .i64 xn] 83)) (.cells #[.int .u8 4] 5))
      have OQ := Hid.mk OO
      clear OO
      obtain ⟨s_VX, f_VX, z_VX⟩ := VX.open
      go_enter Try.func57, Try.ntmps57
      go_wp2_with (first | (go_at_call 82; refine (CK.out _).mono ?_; rintro e wq ⟨rfl, rfl⟩) | fail)
      go_quiet (fail)
      clear s_VX f_VX z_VX
      have bq := belowN (Below.refl (((w.alloc (.cells #[.int .i64 4, .int .i64 (ja : Int), .int .i64 (jb : Int), .int .i64 xn] 83)).alloc (.cells #[.int .u8 4] 5))).heap.size (((w.alloc (.cells #[.int .i64 4, .int .i64 (ja : Int), .int .i64 (jb : Int), .int .i64 xn] 83)).alloc (.cells #[.int .u8 4] 5)))) nq
      have OR := Hid.mk (OQ.out.kept bq)
      have S0 := bq.size
      simp only [World.size_alloc] at S0
      replace VX := VX.kept bq
      replace B := thenB B bq
      clear bq OQ
      generalize World.drewN ((w.alloc (.cells #[.int .i64 4, .int .i64 (ja : Int), .int .i64 (jb : Int), .int .i64 xn] 83)).alloc (.cells #[.int .u8 4] 5)) nq = wn at *
      obtain ⟨s_VX, f_VX, z_VX⟩ := VX.open
      go_wp2_with (first | (go_at_call 82; refine (CK.out _).mono ?_; rintro e wq ⟨rfl, rfl⟩) | fail)
      refine (CA.out _ (HA.out.kept B)).mono ?_
      rintro e waa ⟨cwa, dwa, rfl, Owa, bwa⟩
      clear s_VX f_VX z_VX
      replace OR := Hid.mk (OR.out.kept bwa)
      have Nwa := Hid.mk Owa.nocap
      have Rwa := Hid.mk Owa.rd
      have S_wa := bwa.size
      replace VX := VX.kept bwa
      replace B := thenB B bwa
      clear bwa Owa
      replace B := Hid.mk B
      replace VX := Hid.mk VX
      go_wp2_with (at_builtin; go_loud (refine wpList_put _ rfl _ _ 22 rfl (w.heap.size + 1) 5 i0 Try.underlying22 hi q0 q1 q2 _ _ 1 _ rfl OR.out rfl _ la _ _ rfl Rwa.out hla.out Nwa.out (1 + la) ([4] ++ TA.enc) (by omega) rfl (by omega) (by omega) ?_))
      intro cwab dwab wab Owab bwab
      skip
      clear OR
      replace VX := VX.out.keptB (by omega) bwab
      replace B := B.out.trans (bwab.mono (by omega))
      have S_wab : waa.heap.size ≤ wab.heap.size ∨ True := .inr trivial
      have OR := Hid.mk Owab
      clear bwab Owab
      have hsz : w.heap.size + 1 ≤ wab.heap.size := by have := OR.out.lt; have h1 := VX.1; have h2 := OR.out.some_of (by simp); obtain ⟨g4, rfl, h3⟩ := h2; have := (OR.out.lt _ rfl).2; simp only at this; omega
      obtain ⟨s_VX, f_VX, z_VX⟩ := VX.open
      go_wp2_with (first | (go_at_call 82; refine (CK.out _).mono ?_; rintro e wq ⟨rfl, rfl⟩) | fail)
      refine (CB.out _ (HA.out.kept B)).mono ?_
      rintro e wba ⟨cwb, dwb, rfl, Owb, bwb⟩
      clear s_VX f_VX z_VX
      replace OR := Hid.mk (OR.out.kept bwb)
      have Nwb := Hid.mk Owb.nocap
      have Rwb := Hid.mk Owb.rd
      have S_wb := bwb.size
      replace VX := VX.kept bwb
      replace B := thenB B bwb
      clear bwb Owb
      replace B := Hid.mk B
      replace VX := Hid.mk VX
      go_wp2_with (at_builtin; go_loud (refine wpList_put _ rfl _ _ 22 rfl (w.heap.size + 1) 5 i0 Try.underlying22 hi q0 q1 q2 _ _ (1 + la) _ rfl OR.out (by simp [hla.out]; omega) _ lb _ _ rfl Rwb.out hlb.out Nwb.out (1 + la + lb) (([4] ++ TA.enc) ++ TB.enc) (by omega) rfl (by omega) (by omega) ?_))
      intro cwbb dwbb wbb Owbb bwbb
      skip
      clear OR
      replace VX := VX.out.keptB (by omega) bwbb
      replace B := B.out.trans (bwbb.mono (by omega))
      have S_wbb : wba.heap.size ≤ wbb.heap.size ∨ True := .inr trivial
      have OR := Hid.mk Owbb
      clear bwbb Owbb
      obtain ⟨s_VX, f_VX, z_VX⟩ := VX.open
      go_wp2
      go_ret
      rw [HLEN.out, HENC.out]
      exact ⟨cwbb, dwbb, rfl, OR.out.mono (Nat.le_succ _), B⟩
    · skip
      obtain ⟨ja, rfl⟩ : ∃ j : Nat, xa = (j : Int) := ⟨xa.toNat, by omega⟩
      obtain ⟨jb, rfl⟩ : ∃ j : Nat, xb = (j : Int) := ⟨xb.toNat, by omega⟩
      simp only [Int.toNat_natCast] at hd
      have hja : ja < k := by omega
      have hjb : jb < k := by omega
      have hjan : (ja : Int) < (n : Int) := by omega
      have hjbn : (jb : Int) < (n : Int) := by omega
      have CA := ih ja (by omega) (by omega)
      have CB := ih jb (by omega) (by omega)
      obtain ⟨TA, hTA⟩ : ∃ t, den xs ja = t := ⟨_, rfl⟩
      obtain ⟨TB, hTB⟩ : ∃ t, den xs jb = t := ⟨_, rfl⟩
      rw [hTA] at CA
      rw [hTB] at CB
      rw [hTA, hTB] at hd
      rw [hd] at hsz ⊢
      simp only [Tr.sz] at hsz
      have pA := TA.sz_in
      have pB := TB.sz_in
      have lA : (TA.enc.length : Int) ≤ 600 := by have := TA.enc_len (by omega); omega
      have lB : (TB.enc.length : Int) ≤ 600 := by have := TB.enc_len (by omega); omega
      replace CA := Hid.mk (CA (by omega))
      replace CB := Hid.mk (CB (by omega))
      obtain ⟨la, hla⟩ : ∃ l, TA.enc.length = l := ⟨_, rfl⟩
      obtain ⟨lb, hlb⟩ : ∃ l, TB.enc.length = l := ⟨_, rfl⟩
      have HENC : (Tr.two 5 TA TB).enc = ([5] ++ TA.enc) ++ TB.enc := by simp [Tr.enc]
      replace HENC := Hid.mk HENC
      have HLEN : (Tr.two 5 TA TB).enc.length = 1 + la + lb := by simp [Tr.enc, hla, hlb]; omega
      replace HLEN := Hid.mk HLEN
      rw [hla] at CA lA
      rw [hlb] at CB lB
      replace hla := Hid.mk hla
      replace hlb := Hid.mk hlb
      clear hd hTA hTB hca ih hsz pA pB
      have B := Below.refl w.heap.size w
      have CK := l5Kids_ok 5
      rw [show kids 5 = 2 by unfold kids; simp] at CK
      replace CK := Hid.mk CK
      replace B := thenB B (belowA w (.cells #[.int .i64 5, .int .i64 (ja : Int), .int .i64 (jb : Int), .int .i64 xn] 83))
      have VX := V.new w [.int .i64 5, .int .i64 (ja : Int), .int .i64 (jb : Int), .int .i64 xn] 83
      have OO := Own.lit (w.alloc (.cells #[.int .i64 5, .int .i64 (ja : Int), .int .i64 (jb : Int), .int .i64 xn] 83)) 5 [5] (by unfold maxLen; decide)
      simp only [World.size_alloc, List.length_cons, List.length_nil] at OO
      replace VX := VX.kept (belowA (w.alloc (.cells #[.int .i64 5, .int .i64 (ja : Int), .int .i64 (jb : Int), .int .i64 xn] 83)) (.cells #[.int .u8 5] 5))
      replace B := thenB B (belowA (w.alloc (.cells #[.int .i64 5, .int .i64 (ja : Int), .int .i64 (jb : Int), .int .i64 xn] 83)) (.cells #[.int .u8 5] 5))
      have OQ := Hid.mk OO
      clear OO
      obtain ⟨s_VX, f_VX, z_VX⟩ := VX.open
      go_enter Try.func57, Try.ntmps57
      go_wp2_with (first | (go_at_call 82; refine (CK.out _).mono ?_; rintro e wq ⟨rfl, rfl⟩) | fail)
      go_quiet (fail)
      clear s_VX f_VX z_VX
      have bq := belowN (Below.refl (((w.alloc (.cells #[.int .i64 5, .int .i64 (ja : Int), .int .i64 (jb : Int), .int .i64 xn] 83)).alloc (.cells #[.int .u8 5] 5))).heap.size (((w.alloc (.cells #[.int .i64 5, .int .i64 (ja : Int), .int .i64 (jb : Int), .int .i64 xn] 83)).alloc (.cells #[.int .u8 5] 5)))) nq
      have OR := Hid.mk (OQ.out.kept bq)
      have S0 := bq.size
      simp only [World.size_alloc] at S0
      replace VX := VX.kept bq
      replace B := thenB B bq
      clear bq OQ
      generalize World.drewN ((w.alloc (.cells #[.int .i64 5, .int .i64 (ja : Int), .int .i64 (jb : Int), .int .i64 xn] 83)).alloc (.cells #[.int .u8 5] 5)) nq = wn at *
      obtain ⟨s_VX, f_VX, z_VX⟩ := VX.open
      go_wp2_with (first | (go_at_call 82; refine (CK.out _).mono ?_; rintro e wq ⟨rfl, rfl⟩) | fail)
      refine (CA.out _ (HA.out.kept B)).mono ?_
      rintro e waa ⟨cwa, dwa, rfl, Owa, bwa⟩
      clear s_VX f_VX z_VX
      replace OR := Hid.mk (OR.out.kept bwa)
      have Nwa := Hid.mk Owa.nocap
      have Rwa := Hid.mk Owa.rd
      have S_wa := bwa.size
      replace VX := VX.kept bwa
      replace B := thenB B bwa
      clear bwa Owa
      replace B := Hid.mk B
      replace VX := Hid.mk VX
      go_wp2_with (at_builtin; go_loud (refine wpList_put _ rfl _ _ 22 rfl (w.heap.size + 1) 5 i0 Try.underlying22 hi q0 q1 q2 _ _ 1 _ rfl OR.out rfl _ la _ _ rfl Rwa.out hla.out Nwa.out (1 + la) ([5] ++ TA.enc) (by omega) rfl (by omega) (by omega) ?_))
      intro cwab dwab wab Owab bwab
      skip
      clear OR
      replace VX := VX.out.keptB (by omega) bwab
      replace B := B.out.trans (bwab.mono (by omega))
      have S_wab : waa.heap.size ≤ wab.heap.size ∨ True := .inr trivial
      have OR := Hid.mk Owab
      clear bwab Owab
      have hsz : w.heap.size + 1 ≤ wab.heap.size := by have := OR.out.lt; have h1 := VX.1; have h2 := OR.out.some_of (by simp); obtain ⟨g4, rfl, h3⟩ := h2; have := (OR.out.lt _ rfl).2; simp only at this; omega
      obtain ⟨s_VX, f_VX, z_VX⟩ := VX.open
      go_wp2_with (first | (go_at_call 82; refine (CK.out _).mono ?_; rintro e wq ⟨rfl, rfl⟩) | fail)
      refine (CB.out _ (HA.out.kept B)).mono ?_
      rintro e wba ⟨cwb, dwb, rfl, Owb, bwb⟩
      clear s_VX f_VX z_VX
      replace OR := Hid.mk (OR.out.kept bwb)
      have Nwb := Hid.mk Owb.nocap
      have Rwb := Hid.mk Owb.rd
      have S_wb := bwb.size
      replace VX := VX.kept bwb
      replace B := thenB B bwb
      clear bwb Owb
      replace B := Hid.mk B
      replace VX := Hid.mk VX
      go_wp2_with (at_builtin; go_loud (refine wpList_put _ rfl _ _ 22 rfl (w.heap.size + 1) 5 i0 Try.underlying22 hi q0 q1 q2 _ _ (1 + la) _ rfl OR.out (by simp [hla.out]; omega) _ lb _ _ rfl Rwb.out hlb.out Nwb.out (1 + la + lb) (([5] ++ TA.enc) ++ TB.enc) (by omega) rfl (by omega) (by omega) ?_))
      intro cwbb dwbb wbb Owbb bwbb
      skip
      clear OR
      replace VX := VX.out.keptB (by omega) bwbb
      replace B := B.out.trans (bwbb.mono (by omega))
      have S_wbb : wba.heap.size ≤ wbb.heap.size ∨ True := .inr trivial
      have OR := Hid.mk Owbb
      clear bwbb Owbb
      obtain ⟨s_VX, f_VX, z_VX⟩ := VX.open
      go_wp2
      go_ret
      rw [HLEN.out, HENC.out]
      exact ⟨cwbb, dwbb, rfl, OR.out.mono (Nat.le_succ _), B⟩
    · skip
      obtain ⟨ja, rfl⟩ : ∃ j : Nat, xa = (j : Int) := ⟨xa.toNat, by omega⟩
      obtain ⟨jb, rfl⟩ : ∃ j : Nat, xb = (j : Int) := ⟨xb.toNat, by omega⟩
      simp only [Int.toNat_natCast] at hd
      have hja : ja < k := by omega
      have hjb : jb < k := by omega
      have hjan : (ja : Int) < (n : Int) := by omega
      have hjbn : (jb : Int) < (n : Int) := by omega
      obtain ⟨zA, hzA⟩ : ∃ z, xs.getD ja zTerm = z := ⟨_, rfl⟩
      obtain ⟨zB, hzB⟩ : ∃ z, xs.getD jb zTerm = z := ⟨_, rfl⟩
      unfold tmAt at hcm
      simp only [Int.toNat_natCast] at hcm
      rw [hzA, hzB] at hcm
      have CA := ih ja (by omega) (by omega)
      have CB := ih jb (by omega) (by omega)
      obtain ⟨TA, hTA⟩ : ∃ t, den xs ja = t := ⟨_, rfl⟩
      obtain ⟨TB, hTB⟩ : ∃ t, den xs jb = t := ⟨_, rfl⟩
      rw [hTA] at CA
      rw [hTB] at CB
      rw [hTA, hTB] at hd
      rw [hd] at hsz ⊢
      simp only [Tr.sz] at hsz
      have pA := TA.sz_in
      have pB := TB.sz_in
      have lA : (TA.enc.length : Int) ≤ 600 := by have := TA.enc_len (by omega); omega
      have lB : (TB.enc.length : Int) ≤ 600 := by have := TB.enc_len (by omega); omega
      replace CA := Hid.mk (CA (by omega))
      replace CB := Hid.mk (CB (by omega))
      obtain ⟨la, hla⟩ : ∃ l, TA.enc.length = l := ⟨_, rfl⟩
      obtain ⟨lb, hlb⟩ : ∃ l, TB.enc.length = l := ⟨_, rfl⟩
      have HENC : (Tr.two 7 TA TB).enc = ([7] ++ TA.enc) ++ TB.enc := by simp [Tr.enc]
      replace HENC := Hid.mk HENC
      have HLEN : (Tr.two 7 TA TB).enc.length = 1 + la + lb := by simp [Tr.enc, hla, hlb]; omega
      replace HLEN := Hid.mk HLEN
      rw [hla] at CA lA
      rw [hlb] at CB lB
      replace hla := Hid.mk hla
      replace hlb := Hid.mk hlb
      clear hd hTA hTB hca ih hsz pA pB
      have B := Below.refl w.heap.size w
      have CK := l5Kids_ok 7
      rw [show kids 7 = 2 by unfold kids; simp] at CK
      replace CK := Hid.mk CK
      replace B := thenB B (belowA w (.cells #[.int .i64 7, .int .i64 (ja : Int), .int .i64 (jb : Int), .int .i64 xn] 83))
      have VX := V.new w [.int .i64 7, .int .i64 (ja : Int), .int .i64 (jb : Int), .int .i64 xn] 83
      have OO := Own.lit (w.alloc (.cells #[.int .i64 7, .int .i64 (ja : Int), .int .i64 (jb : Int), .int .i64 xn] 83)) 5 [7] (by unfold maxLen; decide)
      simp only [World.size_alloc, List.length_cons, List.length_nil] at OO
      replace VX := VX.kept (belowA (w.alloc (.cells #[.int .i64 7, .int .i64 (ja : Int), .int .i64 (jb : Int), .int .i64 xn] 83)) (.cells #[.int .u8 7] 5))
      replace B := thenB B (belowA (w.alloc (.cells #[.int .i64 7, .int .i64 (ja : Int), .int .i64 (jb : Int), .int .i64 xn] 83)) (.cells #[.int .u8 7] 5))
      have OQ := Hid.mk OO
      clear OO
      rcases HA.out.kept B with h0 | ⟨b2, o2, e2, hca2⟩
      · rw [h0] at hn; simp at hn; omega
      simp only [Option.some.injEq, Addr.mk.injEq, and_true] at e2
      obtain ⟨rfl, rfl⟩ := e2
      obtain ⟨_, _, _, ra3⟩ := RdTerm.cells hca2 ja (by omega) zA hzA
      obtain ⟨_, _, _, rb3⟩ := RdTerm.cells hca2 jb (by omega) zB hzB
      clear hzA hzB hca2
      obtain ⟨s_VX, f_VX, z_VX⟩ := VX.open
      go_enter Try.func57, Try.ntmps57
      go_wp2_with (first | (go_at_call 82; refine (CK.out _).mono ?_; rintro e wq ⟨rfl, rfl⟩) | fail)
      go_quiet (fail)
      clear s_VX f_VX z_VX
      have bq := belowN (Below.refl (((w.alloc (.cells #[.int .i64 7, .int .i64 (ja : Int), .int .i64 (jb : Int), .int .i64 xn] 83)).alloc (.cells #[.int .u8 7] 5))).heap.size (((w.alloc (.cells #[.int .i64 7, .int .i64 (ja : Int), .int .i64 (jb : Int), .int .i64 xn] 83)).alloc (.cells #[.int .u8 7] 5)))) nq
      have OR := Hid.mk (OQ.out.kept bq)
      have S0 := bq.size
      simp only [World.size_alloc] at S0
      replace VX := VX.kept bq
      replace B := thenB B bq
      clear bq OQ
      generalize World.drewN ((w.alloc (.cells #[.int .i64 7, .int .i64 (ja : Int), .int .i64 (jb : Int), .int .i64 xn] 83)).alloc (.cells #[.int .u8 7] 5)) nq = wn at *
      obtain ⟨s_VX, f_VX, z_VX⟩ := VX.open
      go_wp2_with (first | (go_at_call 82; refine (CK.out _).mono ?_; rintro e wq ⟨rfl, rfl⟩) | fail)
      refine (CA.out _ (HA.out.kept B)).mono ?_
      rintro e waa ⟨cwa, dwa, rfl, Owa, bwa⟩
      clear s_VX f_VX z_VX
      replace OR := Hid.mk (OR.out.kept bwa)
      have Nwa := Hid.mk Owa.nocap
      have Rwa := Hid.mk Owa.rd
      have S_wa := bwa.size
      replace VX := VX.kept bwa
      replace B := thenB B bwa
      clear bwa Owa
      replace B := Hid.mk B
      replace VX := Hid.mk VX
      go_wp2_with (at_builtin; go_loud (refine wpList_put _ rfl _ _ 22 rfl (w.heap.size + 1) 5 i0 Try.underlying22 hi q0 q1 q2 _ _ 1 _ rfl OR.out rfl _ la _ _ rfl Rwa.out hla.out Nwa.out (1 + la) ([7] ++ TA.enc) (by omega) rfl (by omega) (by omega) ?_))
      intro cwab dwab wab Owab bwab
      skip
      clear OR
      replace VX := VX.out.keptB (by omega) bwab
      replace B := B.out.trans (bwab.mono (by omega))
      have S_wab : waa.heap.size ≤ wab.heap.size ∨ True := .inr trivial
      have OR := Hid.mk Owab
      clear bwab Owab
      have hsz : w.heap.size + 1 ≤ wab.heap.size := by have := OR.out.lt; have h1 := VX.1; have h2 := OR.out.some_of (by simp); obtain ⟨g4, rfl, h3⟩ := h2; have := (OR.out.lt _ rfl).2; simp only at this; omega
      obtain ⟨s_VX, f_VX, z_VX⟩ := VX.open
      go_wp2_with (first | (go_at_call 82; refine (CK.out _).mono ?_; rintro e wq ⟨rfl, rfl⟩) | fail)
      refine (CB.out _ (HA.out.kept B)).mono ?_
      rintro e wba ⟨cwb, dwb, rfl, Owb, bwb⟩
      clear s_VX f_VX z_VX
      replace OR := Hid.mk (OR.out.kept bwb)
      have Nwb := Hid.mk Owb.nocap
      have Rwb := Hid.mk Owb.rd
      have S_wb := bwb.size
      replace VX := VX.kept bwb
      replace B := thenB B bwb
      clear bwb Owb
      replace B := Hid.mk B
      replace VX := Hid.mk VX
      go_wp2_with (at_builtin; go_loud (refine wpList_put _ rfl _ _ 22 rfl (w.heap.size + 1) 5 i0 Try.underlying22 hi q0 q1 q2 _ _ (1 + la) _ rfl OR.out (by simp [hla.out]; omega) _ lb _ _ rfl Rwb.out hlb.out Nwb.out (1 + la + lb) (([7] ++ TA.enc) ++ TB.enc) (by omega) rfl (by omega) (by omega) ?_))
      intro cwbb dwbb wbb Owbb bwbb
      skip
      clear OR
      replace VX := VX.out.keptB (by omega) bwbb
      replace B := B.out.trans (bwbb.mono (by omega))
      have S_wbb : wba.heap.size ≤ wbb.heap.size ∨ True := .inr trivial
      have OR := Hid.mk Owbb
      clear bwbb Owbb
      obtain ⟨s_VX, f_VX, z_VX⟩ := VX.open
      go_wp2
      go_ret
      rw [HLEN.out, HENC.out]
      exact ⟨cwbb, dwbb, rfl, OR.out.mono (Nat.le_succ _), B⟩
    · skip
      obtain ⟨ja, rfl⟩ : ∃ j : Nat, xa = (j : Int) := ⟨xa.toNat, by omega⟩
      obtain ⟨jb, rfl⟩ : ∃ j : Nat, xb = (j : Int) := ⟨xb.toNat, by omega⟩
      simp only [Int.toNat_natCast] at hd
      have hja : ja < k := by omega
      have hjb : jb < k := by omega
      have hjan : (ja : Int) < (n : Int) := by omega
      have hjbn : (jb : Int) < (n : Int) := by omega
      obtain ⟨zA, hzA⟩ : ∃ z, xs.getD ja zTerm = z := ⟨_, rfl⟩
      obtain ⟨zB, hzB⟩ : ∃ z, xs.getD jb zTerm = z := ⟨_, rfl⟩
      unfold tmAt at hcm
      simp only [Int.toNat_natCast] at hcm
      rw [hzA, hzB] at hcm
      have CA := ih jb (by omega) (by omega)
      have CB := ih ja (by omega) (by omega)
      obtain ⟨TA, hTA⟩ : ∃ t, den xs jb = t := ⟨_, rfl⟩
      obtain ⟨TB, hTB⟩ : ∃ t, den xs ja = t := ⟨_, rfl⟩
      rw [hTA] at CA
      rw [hTB] at CB
      rw [hTA, hTB] at hd
      rw [hd] at hsz ⊢
      simp only [Tr.sz] at hsz
      have pA := TA.sz_in
      have pB := TB.sz_in
      have lA : (TA.enc.length : Int) ≤ 600 := by have := TA.enc_len (by omega); omega
      have lB : (TB.enc.length : Int) ≤ 600 := by have := TB.enc_len (by omega); omega
      replace CA := Hid.mk (CA (by omega))
      replace CB := Hid.mk (CB (by omega))
      obtain ⟨la, hla⟩ : ∃ l, TA.enc.length = l := ⟨_, rfl⟩
      obtain ⟨lb, hlb⟩ : ∃ l, TB.enc.length = l := ⟨_, rfl⟩
      have HENC : (Tr.two 7 TA TB).enc = ([7] ++ TA.enc) ++ TB.enc := by simp [Tr.enc]
      replace HENC := Hid.mk HENC
      have HLEN : (Tr.two 7 TA TB).enc.length = 1 + la + lb := by simp [Tr.enc, hla, hlb]; omega
      replace HLEN := Hid.mk HLEN
      rw [hla] at CA lA
      rw [hlb] at CB lB
      replace hla := Hid.mk hla
      replace hlb := Hid.mk hlb
      clear hd hTA hTB hca ih hsz pA pB
      have B := Below.refl w.heap.size w
      have CK := l5Kids_ok 7
      rw [show kids 7 = 2 by unfold kids; simp] at CK
      replace CK := Hid.mk CK
      replace B := thenB B (belowA w (.cells #[.int .i64 7, .int .i64 (ja : Int), .int .i64 (jb : Int), .int .i64 xn] 83))
      have VX := V.new w [.int .i64 7, .int .i64 (ja : Int), .int .i64 (jb : Int), .int .i64 xn] 83
      have OO := Own.lit (w.alloc (.cells #[.int .i64 7, .int .i64 (ja : Int), .int .i64 (jb : Int), .int .i64 xn] 83)) 5 [7] (by unfold maxLen; decide)
      simp only [World.size_alloc, List.length_cons, List.length_nil] at OO
      replace VX := VX.kept (belowA (w.alloc (.cells #[.int .i64 7, .int .i64 (ja : Int), .int .i64 (jb : Int), .int .i64 xn] 83)) (.cells #[.int .u8 7] 5))
      replace B := thenB B (belowA (w.alloc (.cells #[.int .i64 7, .int .i64 (ja : Int), .int .i64 (jb : Int), .int .i64 xn] 83)) (.cells #[.int .u8 7] 5))
      have OQ := Hid.mk OO
      clear OO
      rcases HA.out.kept B with h0 | ⟨b2, o2, e2, hca2⟩
      · rw [h0] at hn; simp at hn; omega
      simp only [Option.some.injEq, Addr.mk.injEq, and_true] at e2
      obtain ⟨rfl, rfl⟩ := e2
      obtain ⟨_, _, _, ra3⟩ := RdTerm.cells hca2 ja (by omega) zA hzA
      obtain ⟨_, _, _, rb3⟩ := RdTerm.cells hca2 jb (by omega) zB hzB
      clear hzA hzB hca2
      obtain ⟨s_VX, f_VX, z_VX⟩ := VX.open
      go_enter Try.func57, Try.ntmps57
      go_wp2_with (first | (go_at_call 82; refine (CK.out _).mono ?_; rintro e wq ⟨rfl, rfl⟩) | fail)
      go_quiet (fail)
      clear s_VX f_VX z_VX
      have bq := belowN (Below.refl (((w.alloc (.cells #[.int .i64 7, .int .i64 (ja : Int), .int .i64 (jb : Int), .int .i64 xn] 83)).alloc (.cells #[.int .u8 7] 5))).heap.size (((w.alloc (.cells #[.int .i64 7, .int .i64 (ja : Int), .int .i64 (jb : Int), .int .i64 xn] 83)).alloc (.cells #[.int .u8 7] 5)))) nq
      have OR := Hid.mk (OQ.out.kept bq)
      have S0 := bq.size
      simp only [World.size_alloc] at S0
      replace VX := VX.kept bq
      replace B := thenB B bq
      clear bq OQ
      generalize World.drewN ((w.alloc (.cells #[.int .i64 7, .int .i64 (ja : Int), .int .i64 (jb : Int), .int .i64 xn] 83)).alloc (.cells #[.int .u8 7] 5)) nq = wn at *
      obtain ⟨s_VX, f_VX, z_VX⟩ := VX.open
      go_wp2_with (first | (go_at_call 82; refine (CK.out _).mono ?_; rintro e wq ⟨rfl, rfl⟩) | fail)
      refine (CA.out _ (HA.out.kept B)).mono ?_
      rintro e waa ⟨cwa, dwa, rfl, Owa, bwa⟩
      clear s_VX f_VX z_VX
      replace OR := Hid.mk (OR.out.kept bwa)
      have Nwa := Hid.mk Owa.nocap
      have Rwa := Hid.mk Owa.rd
      have S_wa := bwa.size
      replace VX := VX.kept bwa
      replace B := thenB B bwa
      clear bwa Owa
      replace B := Hid.mk B
      replace VX := Hid.mk VX
      go_wp2_with (at_builtin; go_loud (refine wpList_put _ rfl _ _ 22 rfl (w.heap.size + 1) 5 i0 Try.underlying22 hi q0 q1 q2 _ _ 1 _ rfl OR.out rfl _ la _ _ rfl Rwa.out hla.out Nwa.out (1 + la) ([7] ++ TA.enc) (by omega) rfl (by omega) (by omega) ?_))
      intro cwab dwab wab Owab bwab
      skip
      clear OR
      replace VX := VX.out.keptB (by omega) bwab
      replace B := B.out.trans (bwab.mono (by omega))
      have S_wab : waa.heap.size ≤ wab.heap.size ∨ True := .inr trivial
      have OR := Hid.mk Owab
      clear bwab Owab
      have hsz : w.heap.size + 1 ≤ wab.heap.size := by have := OR.out.lt; have h1 := VX.1; have h2 := OR.out.some_of (by simp); obtain ⟨g4, rfl, h3⟩ := h2; have := (OR.out.lt _ rfl).2; simp only at this; omega
      obtain ⟨s_VX, f_VX, z_VX⟩ := VX.open
      go_wp2_with (first | (go_at_call 82; refine (CK.out _).mono ?_; rintro e wq ⟨rfl, rfl⟩) | fail)
      refine (CB.out _ (HA.out.kept B)).mono ?_
      rintro e wba ⟨cwb, dwb, rfl, Owb, bwb⟩
      clear s_VX f_VX z_VX
      replace OR := Hid.mk (OR.out.kept bwb)
      have Nwb := Hid.mk Owb.nocap
      have Rwb := Hid.mk Owb.rd
      have S_wb := bwb.size
      replace VX := VX.kept bwb
      replace B := thenB B bwb
      clear bwb Owb
      replace B := Hid.mk B
      replace VX := Hid.mk VX
      go_wp2_with (at_builtin; go_loud (refine wpList_put _ rfl _ _ 22 rfl (w.heap.size + 1) 5 i0 Try.underlying22 hi q0 q1 q2 _ _ (1 + la) _ rfl OR.out (by simp [hla.out]; omega) _ lb _ _ rfl Rwb.out hlb.out Nwb.out (1 + la + lb) (([7] ++ TA.enc) ++ TB.enc) (by omega) rfl (by omega) (by omega) ?_))
      intro cwbb dwbb wbb Owbb bwbb
      skip
      clear OR
      replace VX := VX.out.keptB (by omega) bwbb
      replace B := B.out.trans (bwbb.mono (by omega))
      have S_wbb : wba.heap.size ≤ wbb.heap.size ∨ True := .inr trivial
      have OR := Hid.mk Owbb
      clear bwbb Owbb
      obtain ⟨s_VX, f_VX, z_VX⟩ := VX.open
      go_wp2
      go_ret
      rw [HLEN.out, HENC.out]
      exact ⟨cwbb, dwbb, rfl, OR.out.mono (Nat.le_succ _), B⟩

end Go.Proofs.Ytfldgeokigcokaa

/- EncodeTerm: the model. -/
namespace Go.Proofs.Ytfldgeokigcokaa
open Go.RowKit

theorem Own.apart8 {w : World} {base : Nat} {a : Option Addr} {cap : Nat} {zs : List Int} {B : Nat} (h : Own .u8 5 w base a cap zs) (hB : ∀ b : Addr, a = some b → b.block ≠ B) (o : Nat) (vs : List Value) : Own .u8 5 (w.setCells B o vs) base a cap zs :=
  h.sm (X := fun k => k = B) (Sm.cells (X := fun k => k = B) (B := B) rfl o vs) (fun b hb e => hB b hb e)

theorem build_brc (c : Int) (w : World) : (Instr.build 29 #[(0, .int .i64 c)]).run Try.prog w = .ok (.agg #[.int .i64 c, .slice none 0 0]) w := run_build w 29 _ _ (by kernel_rfl)
theorem build_brv (c : Option Addr) (n d : Nat) (w : World) : (Instr.build 29 #[(1, .slice c n d)]).run Try.prog w = .ok (.agg #[.int .i64 0, .slice c n d]) w := run_build w 29 _ _ (by kernel_rfl)

set_option maxRecDepth 20000 in
set_option maxHeartbeats 8000000 in
theorem specEncodeTerm_ok (a : Option Addr) (n ca : Nat) (xs : List T4) (q : Int) (w : World) (ha : RdTerm w a xs) (hn : xs.length = n) (hx : n ≤ maxLen) (hca : n ≤ ca) :
    Calls Try.prog 17 #[.slice a n ca, .int .i64 q] w fun e w' => ∃ c d, e = .returned (.agg #[.int .i64 (enC xs q), .slice c (enB xs q).length d]) ∧ Own .u8 5 w' w.heap.size c d (enB xs q) ∧ Below w.heap.size w w' := by
  have q1 := build_brc
  have q2 := build_brv
  have CA := Hid.mk (fun w h => l5Asked_ok a n ca xs q w h hn hx hca)
  have HW := en_ways xs q
  by_cases h1 : akC xs q = 0
  case neg =>
    rcases HW with ⟨_, e1, e2⟩ | ⟨h, _⟩ | ⟨h, _⟩ | ⟨h, _⟩
    · rw [e1, e2]
      have h2 : (akC xs q != 0) = true := by simp [h1]
      clear h1 e1 e2
      generalize akC xs q = kk at *
      go_enter Try.func17, Try.ntmps17
      have B := Below.refl w.heap.size w
      replace ha := ha.kept (belowA w (.cells #[.int .i64 0, .slice none 0 0] 29))
      replace B := thenB B (belowA w (.cells #[.int .i64 0, .slice none 0 0] 29))
      have VR := V.new w [.int .i64 0, .slice none 0 0] 29
      obtain ⟨s_VR, f_VR, z_VR⟩ := VR.open
      have Bo := B
      go_wp2_with fail
      refine (CA.out _ ha).mono ?_
      rintro e w1 ⟨rfl, b1⟩
      clear s_VR f_VR z_VR
      have S1 := b1.size
      simp only [World.size_alloc] at S1
      replace VR := VR.kept b1
      replace ha := ha.kept b1
      replace B := thenB B b1
      clear b1
      obtain ⟨s_VR, f_VR, z_VR⟩ := VR.open
      have Bo := B
      clear s_VR f_VR z_VR
      have VF := Hid.mk (VR.filled [.int .i64 kk, .slice none 0 0] rfl)
      have HT := Hid.mk VR.there
      have BR := belowCells B (show w.heap.size ≤ w.heap.size by (first | omega | (simp; done) | (simp; omega))) 0 [.int .i64 kk, .slice none 0 0]
      replace BR := Hid.mk BR
      obtain ⟨s_VR, f_VR, z_VR⟩ := VR.open
      go_wp2_with (refine wpList_store_mid rfl 29 _ _ rfl (w.heap.size) 0 #[.int .i64 kk, .slice none 0 0] rfl rfl HT.out (by kernel_rfl) (by kernel_rfl) ?_)
      refine bodyPost_ret (v := .agg #[.int .i64 kk, .slice none 0 0]) (results_row Try.results17 _ _ (w.heap.size) [.int .i64 kk, .slice none 0 0] _ rfl VF.out Try.underlying29 rfl (by kernel_rfl)) rfl ⟨none, 0, rfl, own_none, BR.out⟩
    all_goals exact absurd h h1
  obtain ⟨hv, hq0, hq1⟩ := ak_zero h1
  rw [h1] at CA
  obtain ⟨m, rfl⟩ : ∃ m : Nat, q = (m : Int) := ⟨q.toNat, by omega⟩
  rw [Int.toNat_natCast] at HW
  have CD := Hid.mk (fun w h => l7Depths_ok a n ca xs w h hn hv)
  have CS := Hid.mk (fun w h => l5Sizes_ok a n ca xs w h hn hv)
  have CE := l7Encode_ok a n ca xs hn hv m (by omega)
  have hzm := dpL_at xs n m (by omega)
  have hzl := Hid.mk (dpL_len xs n)
  have hsm := szL_at xs n m (by omega)
  have hsl := Hid.mk (szL_len xs n)
  have hel := (den xs m).enc_len
  have hm1 : (m : Int) < (n : Int) := by omega
  obtain ⟨T, hT⟩ : ∃ T, den xs m = T := ⟨_, rfl⟩
  rw [hT] at HW CE hzm hsm hel
  obtain ⟨D, hD⟩ : ∃ D, T.dp = D := ⟨_, rfl⟩
  obtain ⟨S, hS⟩ : ∃ S, T.sz = S := ⟨_, rfl⟩
  obtain ⟨l, hl⟩ : ∃ l, T.enc.length = l := ⟨_, rfl⟩
  rw [hD, hS, hl] at HW
  rw [hD] at hzm
  rw [hS] at hsm hel CE
  rw [hl] at hel CE
  replace hzm := Hid.mk hzm
  replace hsm := Hid.mk hsm
  have hll := Hid.mk hl
  clear hT hD hS hl hq0 hq1 hv
  rcases HW with ⟨h, _⟩ | ⟨_, h2, e1, e2⟩ | ⟨_, h2, h3, h4, e1, e2⟩ | ⟨_, h2, h3, h4, e1, e2⟩
  · exact absurd h1 h
  · rw [e1, e2]
    clear h1 e1 e2 CE hel
    by_cases h3 : 30 < D
    · clear h2 CS hsm hsl
      go_enter Try.func17, Try.ntmps17
      have B := Below.refl w.heap.size w
      replace ha := ha.kept (belowA w (.cells #[.int .i64 0, .slice none 0 0] 29))
      replace B := thenB B (belowA w (.cells #[.int .i64 0, .slice none 0 0] 29))
      have VR := V.new w [.int .i64 0, .slice none 0 0] 29
      obtain ⟨s_VR, f_VR, z_VR⟩ := VR.open
      have Bo := B
      go_wp2_with fail
      refine (CA.out _ ha).mono ?_
      rintro e w21 ⟨rfl, b21⟩
      clear s_VR f_VR z_VR
      have S21 := b21.size
      simp only [World.size_alloc] at S21
      replace VR := VR.kept b21
      replace ha := ha.kept b21
      replace B := thenB B b21
      clear b21
      obtain ⟨s_VR, f_VR, z_VR⟩ := VR.open
      have Bo := B
      go_wp2_with fail
      refine (CD.out _ ha).mono ?_
      rintro e w22 ⟨c, d, rfl, O, b22⟩
      clear s_VR f_VR z_VR
      have S22 := b22.size
      replace VR := VR.kept b22
      replace ha := ha.kept b22
      replace B := thenB B b22
      clear b22
      obtain ⟨s_VR, f_VR, z_VR⟩ := VR.open
      have Bo := B
      rcases O.rd with h0 | ⟨b1, o1, rfl, hca2⟩
      · have := hzl.out; rw [h0] at this; simp at this; omega
      have p0 := hca2 m (by have := hzl.out; omega)
      rw [hzm.out] at p0
      clear hca2 O
      clear s_VR f_VR z_VR
      have VF := Hid.mk (VR.filled [.int .i64 2, .slice none 0 0] rfl)
      have HT := Hid.mk VR.there
      have BR := belowCells B (show w.heap.size ≤ w.heap.size by (first | omega | (simp; done) | (simp; omega))) 0 [.int .i64 2, .slice none 0 0]
      replace BR := Hid.mk BR
      obtain ⟨s_VR, f_VR, z_VR⟩ := VR.open
      go_wp2_with (refine wpList_store_mid rfl 29 _ _ rfl (w.heap.size) 0 #[.int .i64 2, .slice none 0 0] rfl rfl HT.out (by kernel_rfl) (by kernel_rfl) ?_)
      refine bodyPost_ret (v := .agg #[.int .i64 2, .slice none 0 0]) (results_row Try.results17 _ _ (w.heap.size) [.int .i64 2, .slice none 0 0] _ rfl VF.out Try.underlying29 rfl (by kernel_rfl)) rfl ⟨none, 0, rfl, own_none, BR.out⟩
    · have h4 : 200 < S := by omega
      have h5 : D ≤ 30 := by omega
      clear h2 h3
      go_enter Try.func17, Try.ntmps17
      have B := Below.refl w.heap.size w
      replace ha := ha.kept (belowA w (.cells #[.int .i64 0, .slice none 0 0] 29))
      replace B := thenB B (belowA w (.cells #[.int .i64 0, .slice none 0 0] 29))
      have VR := V.new w [.int .i64 0, .slice none 0 0] 29
      obtain ⟨s_VR, f_VR, z_VR⟩ := VR.open
      have Bo := B
      go_wp2_with fail
      refine (CA.out _ ha).mono ?_
      rintro e w41 ⟨rfl, b41⟩
      clear s_VR f_VR z_VR
      have S41 := b41.size
      simp only [World.size_alloc] at S41
      replace VR := VR.kept b41
      replace ha := ha.kept b41
      replace B := thenB B b41
      clear b41
      obtain ⟨s_VR, f_VR, z_VR⟩ := VR.open
      have Bo := B
      go_wp2_with fail
      refine (CD.out _ ha).mono ?_
      rintro e w42 ⟨c, d, rfl, O, b42⟩
      clear s_VR f_VR z_VR
      have S42 := b42.size
      replace VR := VR.kept b42
      replace ha := ha.kept b42
      replace B := thenB B b42
      clear b42
      obtain ⟨s_VR, f_VR, z_VR⟩ := VR.open
      have Bo := B
      rcases O.rd with h0 | ⟨b1, o1, rfl, hca2⟩
      · have := hzl.out; rw [h0] at this; simp at this; omega
      have p0 := hca2 m (by have := hzl.out; omega)
      rw [hzm.out] at p0
      clear hca2 O
      go_wp2_with fail
      refine (CS.out _ ha).mono ?_
      rintro e w43 ⟨c2, d2, rfl, O2, b43⟩
      clear s_VR f_VR z_VR
      have S43 := b43.size
      replace VR := VR.kept b43
      replace ha := ha.kept b43
      replace B := thenB B b43
      clear b43
      obtain ⟨s_VR, f_VR, z_VR⟩ := VR.open
      have Bo := B
      rcases O2.rd with h0 | ⟨b2, o2, rfl, hca3⟩
      · have := hsl.out; rw [h0] at this; simp at this; omega
      have p1 := hca3 m (by have := hsl.out; omega)
      rw [hsm.out] at p1
      clear hca3 O2
      clear s_VR f_VR z_VR
      have VF := Hid.mk (VR.filled [.int .i64 2, .slice none 0 0] rfl)
      have HT := Hid.mk VR.there
      have BR := belowCells B (show w.heap.size ≤ w.heap.size by (first | omega | (simp; done) | (simp; omega))) 0 [.int .i64 2, .slice none 0 0]
      replace BR := Hid.mk BR
      obtain ⟨s_VR, f_VR, z_VR⟩ := VR.open
      go_wp2_with (refine wpList_store_mid rfl 29 _ _ rfl (w.heap.size) 0 #[.int .i64 2, .slice none 0 0] rfl rfl HT.out (by kernel_rfl) (by kernel_rfl) ?_)
      refine bodyPost_ret (v := .agg #[.int .i64 2, .slice none 0 0]) (results_row Try.results17 _ _ (w.heap.size) [.int .i64 2, .slice none 0 0] _ rfl VF.out Try.underlying29 rfl (by kernel_rfl)) rfl ⟨none, 0, rfl, own_none, BR.out⟩
  · rw [e1, e2]
    have hl4 : (l : Int) > 400 := by omega
    replace CE := Hid.mk (CE (by omega))
    clear h1 e1 e2
    go_enter Try.func17, Try.ntmps17
    have B := Below.refl w.heap.size w
    replace ha := ha.kept (belowA w (.cells #[.int .i64 0, .slice none 0 0] 29))
    replace B := thenB B (belowA w (.cells #[.int .i64 0, .slice none 0 0] 29))
    have VR := V.new w [.int .i64 0, .slice none 0 0] 29
    obtain ⟨s_VR, f_VR, z_VR⟩ := VR.open
    have Bo := B
    go_wp2_with fail
    refine (CA.out _ ha).mono ?_
    rintro e w41 ⟨rfl, b41⟩
    clear s_VR f_VR z_VR
    have S41 := b41.size
    simp only [World.size_alloc] at S41
    replace VR := VR.kept b41
    replace ha := ha.kept b41
    replace B := thenB B b41
    clear b41
    obtain ⟨s_VR, f_VR, z_VR⟩ := VR.open
    have Bo := B
    go_wp2_with fail
    refine (CD.out _ ha).mono ?_
    rintro e w42 ⟨c, d, rfl, O, b42⟩
    clear s_VR f_VR z_VR
    have S42 := b42.size
    replace VR := VR.kept b42
    replace ha := ha.kept b42
    replace B := thenB B b42
    clear b42
    obtain ⟨s_VR, f_VR, z_VR⟩ := VR.open
    have Bo := B
    rcases O.rd with h0 | ⟨b1, o1, rfl, hca2⟩
    · have := hzl.out; rw [h0] at this; simp at this; omega
    have p0 := hca2 m (by have := hzl.out; omega)
    rw [hzm.out] at p0
    clear hca2 O
    go_wp2_with fail
    refine (CS.out _ ha).mono ?_
    rintro e w43 ⟨c2, d2, rfl, O2, b43⟩
    clear s_VR f_VR z_VR
    have S43 := b43.size
    replace VR := VR.kept b43
    replace ha := ha.kept b43
    replace B := thenB B b43
    clear b43
    obtain ⟨s_VR, f_VR, z_VR⟩ := VR.open
    have Bo := B
    rcases O2.rd with h0 | ⟨b2, o2, rfl, hca3⟩
    · have := hsl.out; rw [h0] at this; simp at this; omega
    have p1 := hca3 m (by have := hsl.out; omega)
    rw [hsm.out] at p1
    clear hca3 O2
    go_wp2_with fail
    refine (CE.out _ ha).mono ?_
    rintro e w44 ⟨c3, d3, rfl, O, b44⟩
    clear s_VR f_VR z_VR
    have S44 := b44.size
    replace VR := VR.kept b44
    replace ha := ha.kept b44
    replace B := thenB B b44
    clear b44
    obtain ⟨s_VR, f_VR, z_VR⟩ := VR.open
    have Bo := B
    clear s_VR f_VR z_VR
    have VF := Hid.mk (VR.filled [.int .i64 2, .slice none 0 0] rfl)
    have HT := Hid.mk VR.there
    have BR := belowCells B (show w.heap.size ≤ w.heap.size by (first | omega | (simp; done) | (simp; omega))) 0 [.int .i64 2, .slice none 0 0]
    replace BR := Hid.mk BR
    obtain ⟨s_VR, f_VR, z_VR⟩ := VR.open
    go_wp2_with (refine wpList_store_mid rfl 29 _ _ rfl (w.heap.size) 0 #[.int .i64 2, .slice none 0 0] rfl rfl HT.out (by kernel_rfl) (by kernel_rfl) ?_)
    refine bodyPost_ret (v := .agg #[.int .i64 2, .slice none 0 0]) (results_row Try.results17 _ _ (w.heap.size) [.int .i64 2, .slice none 0 0] _ rfl VF.out Try.underlying29 rfl (by kernel_rfl)) rfl ⟨none, 0, rfl, own_none, BR.out⟩
  · rw [e1, e2]
    have hl4 : (l : Int) ≤ 400 := by omega
    replace CE := Hid.mk (CE (by omega))
    clear h1 e1 e2
    go_enter Try.func17, Try.ntmps17
    have B := Below.refl w.heap.size w
    replace ha := ha.kept (belowA w (.cells #[.int .i64 0, .slice none 0 0] 29))
    replace B := thenB B (belowA w (.cells #[.int .i64 0, .slice none 0 0] 29))
    have VR := V.new w [.int .i64 0, .slice none 0 0] 29
    obtain ⟨s_VR, f_VR, z_VR⟩ := VR.open
    have Bo := B
    go_wp2_with fail
    refine (CA.out _ ha).mono ?_
    rintro e w41 ⟨rfl, b41⟩
    clear s_VR f_VR z_VR
    have S41 := b41.size
    simp only [World.size_alloc] at S41
    replace VR := VR.kept b41
    replace ha := ha.kept b41
    replace B := thenB B b41
    clear b41
    obtain ⟨s_VR, f_VR, z_VR⟩ := VR.open
    have Bo := B
    go_wp2_with fail
    refine (CD.out _ ha).mono ?_
    rintro e w42 ⟨c, d, rfl, O, b42⟩
    clear s_VR f_VR z_VR
    have S42 := b42.size
    replace VR := VR.kept b42
    replace ha := ha.kept b42
    replace B := thenB B b42
    clear b42
    obtain ⟨s_VR, f_VR, z_VR⟩ := VR.open
    have Bo := B
    rcases O.rd with h0 | ⟨b1, o1, rfl, hca2⟩
    · have := hzl.out; rw [h0] at this; simp at this; omega
    have p0 := hca2 m (by have := hzl.out; omega)
    rw [hzm.out] at p0
    clear hca2 O
    go_wp2_with fail
    refine (CS.out _ ha).mono ?_
    rintro e w43 ⟨c2, d2, rfl, O2, b43⟩
    clear s_VR f_VR z_VR
    have S43 := b43.size
    replace VR := VR.kept b43
    replace ha := ha.kept b43
    replace B := thenB B b43
    clear b43
    obtain ⟨s_VR, f_VR, z_VR⟩ := VR.open
    have Bo := B
    rcases O2.rd with h0 | ⟨b2, o2, rfl, hca3⟩
    · have := hsl.out; rw [h0] at this; simp at this; omega
    have p1 := hca3 m (by have := hsl.out; omega)
    rw [hsm.out] at p1
    clear hca3 O2
    go_wp2_with fail
    refine (CE.out _ ha).mono ?_
    rintro e w44 ⟨c3, d3, rfl, O, b44⟩
    clear s_VR f_VR z_VR
    have S44 := b44.size
    replace VR := VR.kept b44
    replace ha := ha.kept b44
    replace B := thenB B b44
    clear b44
    obtain ⟨s_VR, f_VR, z_VR⟩ := VR.open
    have Bo := B
    have OL := Hid.mk (fun b hb => (O.lt b hb).1)
    clear s_VR f_VR z_VR
    have VF := Hid.mk (VR.filled [.int .i64 0, .slice c3 l d3] rfl)
    have HT := Hid.mk VR.there
    have BR := belowCells B (show w.heap.size ≤ w.heap.size by (first | omega | (simp; done) | (simp; omega))) 0 [.int .i64 0, .slice c3 l d3]
    replace BR := Hid.mk BR
    have HO := Hid.mk ((O.mono (show w.heap.size ≤ _ by first | omega | (simp; done) | (simp; omega))).apart8 (B := w.heap.size) (by intro b hb; have := OL.out b hb; first | omega | (simp at this; omega)) 0 [.int .i64 0, .slice c3 l d3])
    obtain ⟨s_VR, f_VR, z_VR⟩ := VR.open
    go_wp2_with (refine wpList_store_mid rfl 29 _ _ rfl (w.heap.size) 0 #[.int .i64 0, .slice c3 l d3] rfl rfl HT.out (by kernel_rfl) (by kernel_rfl) ?_)
    refine bodyPost_ret (v := .agg #[.int .i64 0, .slice c3 l d3]) (results_row Try.results17 _ _ (w.heap.size) [.int .i64 0, .slice c3 l d3] _ rfl VF.out Try.underlying29 rfl (by kernel_rfl)) rfl ⟨c3, d3, by rw [hll.out], HO.out, BR.out⟩

end Go.Proofs.Ytfldgeokigcokaa

/- EncodeFrame: the model. -/
namespace Go.Proofs.Ytfldgeokigcokaa
open Go.RowKit

set_option maxHeartbeats 1000000 in
theorem l7Word_ok (x : Int) (w : World) : Calls Try.prog 52 #[.int .i64 x] w fun e w' => e = .returned (.bool (btw x 0 4294967295)) ∧ w' = w := by
  have CI := Hid.mk (l1In_ok x 0 4294967295)
  go_enter Try.func52, Try.ntmps52
  go_wp2_with fail
  refine (CI.out _).mono ?_
  rintro e wq ⟨rfl, rfl⟩
  go_wp2
  go_ret
  exact ⟨rfl, rfl⟩

set_option maxRecDepth 20000 in
set_option maxHeartbeats 8000000 in
theorem specEncodeFrame_ok (kind a b n : Int) (z : Option Addr) (m ca : Nat) (body : List Int) (w : World) (hr : Rd .u8 w z body) (hm : body.length = m) (hx : m ≤ maxLen) (hca : z = none → ca = 0) :
    Calls Try.prog 15 #[.int .i64 kind, .int .i64 a, .int .i64 b, .int .i64 n, .slice z m ca] w fun e w' => ∃ c d, e = .returned (.agg #[.int .i64 (frmC kind a b n body), .slice c (frmB kind a b n body).length d]) ∧ Own .u8 5 w' w.heap.size c d (frmB kind a b n body) ∧ Below w.heap.size w w' := by
  have q1 := build_brc
  have q2 := build_brv
  have CI := l1In_ok kind 1 9
  have CWa := l7Word_ok a
  have CWb := l7Word_ok b
  have CWn := l7Word_ok n
  have HR := Hid.mk hr
  unfold maxLen at hx
  have HW := fr_ways kind a b n body
  have HFL := frmP_len kind a b n body
  rw [hm] at HW HFL
  have HFP : ((((([32, kind] ++ putN a 4) ++ putN b 4) ++ putN n 4) ++ putN (m : Int) 2) ++ body) = frmP kind a b n body := by unfold frmP; rw [hm]
  replace HFP := Hid.mk HFP
  replace HFL := Hid.mk HFL
  rcases HW with ⟨h1, e1, e2⟩ | ⟨h1, h2, e1, e2⟩ | ⟨h1, h2, h3, e1, e2⟩ | ⟨h1, h2, h3, h4, e1, e2⟩ | ⟨h1, h2, h3, h4, h5, e1, e2⟩ | ⟨h1, h2, h3, h4, h5, e1, e2⟩
  · skip
    rw [e1, e2]
    rw [h1] at CI
    replace CI := Hid.mk CI
    replace CWa := Hid.mk CWa
    replace CWb := Hid.mk CWb
    replace CWn := Hid.mk CWn
    clear e1 e2
    go_enter Try.func15, Try.ntmps15
    have B := Below.refl w.heap.size w
    replace B := thenB B (belowA w (.cells #[.int .i64 0, .slice none 0 0] 29))
    have VR := V.new w [.int .i64 0, .slice none 0 0] 29
    obtain ⟨s_VR, f_VR, z_VR⟩ := VR.open
    have Bo := B
    clear s_VR f_VR z_VR
    have VF := Hid.mk (VR.filled [.int .i64 3, .slice none 0 0] rfl)
    have HT := Hid.mk VR.there
    have BR := belowCells B (show w.heap.size ≤ w.heap.size by (first | omega | (simp; done) | (simp; omega))) 0 [.int .i64 3, .slice none 0 0]
    replace BR := Hid.mk BR
    obtain ⟨s_VR, f_VR, z_VR⟩ := VR.open
    go_wp2_with (first | (go_at_call 47; refine (CI.out _).mono ?_; rintro e wq ⟨rfl, rfl⟩) | (go_at_call 52; (first | refine (CWa.out _).mono ?_ | refine (CWb.out _).mono ?_ | refine (CWn.out _).mono ?_); rintro e wq ⟨rfl, rfl⟩) | (refine wpList_store_mid rfl 29 _ _ rfl (w.heap.size) 0 #[.int .i64 3, .slice none 0 0] rfl rfl HT.out (by kernel_rfl) (by kernel_rfl) ?_))
    refine bodyPost_ret (v := .agg #[.int .i64 3, .slice none 0 0]) (results_row Try.results15 _ _ (w.heap.size) [.int .i64 3, .slice none 0 0] _ rfl VF.out Try.underlying29 rfl (by kernel_rfl)) rfl ⟨none, 0, rfl, own_none, BR.out⟩
  · skip
    rw [e1, e2]
    rw [h1] at CI
    rw [h2] at CWa
    replace CI := Hid.mk CI
    replace CWa := Hid.mk CWa
    replace CWb := Hid.mk CWb
    replace CWn := Hid.mk CWn
    clear e1 e2
    go_enter Try.func15, Try.ntmps15
    have B := Below.refl w.heap.size w
    replace B := thenB B (belowA w (.cells #[.int .i64 0, .slice none 0 0] 29))
    have VR := V.new w [.int .i64 0, .slice none 0 0] 29
    obtain ⟨s_VR, f_VR, z_VR⟩ := VR.open
    have Bo := B
    clear s_VR f_VR z_VR
    have VF := Hid.mk (VR.filled [.int .i64 3, .slice none 0 0] rfl)
    have HT := Hid.mk VR.there
    have BR := belowCells B (show w.heap.size ≤ w.heap.size by (first | omega | (simp; done) | (simp; omega))) 0 [.int .i64 3, .slice none 0 0]
    replace BR := Hid.mk BR
    obtain ⟨s_VR, f_VR, z_VR⟩ := VR.open
    go_wp2_with (first | (go_at_call 47; refine (CI.out _).mono ?_; rintro e wq ⟨rfl, rfl⟩) | (go_at_call 52; (first | refine (CWa.out _).mono ?_ | refine (CWb.out _).mono ?_ | refine (CWn.out _).mono ?_); rintro e wq ⟨rfl, rfl⟩) | (refine wpList_store_mid rfl 29 _ _ rfl (w.heap.size) 0 #[.int .i64 3, .slice none 0 0] rfl rfl HT.out (by kernel_rfl) (by kernel_rfl) ?_))
    refine bodyPost_ret (v := .agg #[.int .i64 3, .slice none 0 0]) (results_row Try.results15 _ _ (w.heap.size) [.int .i64 3, .slice none 0 0] _ rfl VF.out Try.underlying29 rfl (by kernel_rfl)) rfl ⟨none, 0, rfl, own_none, BR.out⟩
  · skip
    rw [e1, e2]
    rw [h1] at CI
    rw [h2] at CWa
    rw [h3] at CWb
    replace CI := Hid.mk CI
    replace CWa := Hid.mk CWa
    replace CWb := Hid.mk CWb
    replace CWn := Hid.mk CWn
    clear e1 e2
    go_enter Try.func15, Try.ntmps15
    have B := Below.refl w.heap.size w
    replace B := thenB B (belowA w (.cells #[.int .i64 0, .slice none 0 0] 29))
    have VR := V.new w [.int .i64 0, .slice none 0 0] 29
    obtain ⟨s_VR, f_VR, z_VR⟩ := VR.open
    have Bo := B
    clear s_VR f_VR z_VR
    have VF := Hid.mk (VR.filled [.int .i64 3, .slice none 0 0] rfl)
    have HT := Hid.mk VR.there
    have BR := belowCells B (show w.heap.size ≤ w.heap.size by (first | omega | (simp; done) | (simp; omega))) 0 [.int .i64 3, .slice none 0 0]
    replace BR := Hid.mk BR
    obtain ⟨s_VR, f_VR, z_VR⟩ := VR.open
    go_wp2_with (first | (go_at_call 47; refine (CI.out _).mono ?_; rintro e wq ⟨rfl, rfl⟩) | (go_at_call 52; (first | refine (CWa.out _).mono ?_ | refine (CWb.out _).mono ?_ | refine (CWn.out _).mono ?_); rintro e wq ⟨rfl, rfl⟩) | (refine wpList_store_mid rfl 29 _ _ rfl (w.heap.size) 0 #[.int .i64 3, .slice none 0 0] rfl rfl HT.out (by kernel_rfl) (by kernel_rfl) ?_))
    refine bodyPost_ret (v := .agg #[.int .i64 3, .slice none 0 0]) (results_row Try.results15 _ _ (w.heap.size) [.int .i64 3, .slice none 0 0] _ rfl VF.out Try.underlying29 rfl (by kernel_rfl)) rfl ⟨none, 0, rfl, own_none, BR.out⟩
  · skip
    rw [e1, e2]
    rw [h1] at CI
    rw [h2] at CWa
    rw [h3] at CWb
    rw [h4] at CWn
    replace CI := Hid.mk CI
    replace CWa := Hid.mk CWa
    replace CWb := Hid.mk CWb
    replace CWn := Hid.mk CWn
    clear e1 e2
    go_enter Try.func15, Try.ntmps15
    have B := Below.refl w.heap.size w
    replace B := thenB B (belowA w (.cells #[.int .i64 0, .slice none 0 0] 29))
    have VR := V.new w [.int .i64 0, .slice none 0 0] 29
    obtain ⟨s_VR, f_VR, z_VR⟩ := VR.open
    have Bo := B
    clear s_VR f_VR z_VR
    have VF := Hid.mk (VR.filled [.int .i64 3, .slice none 0 0] rfl)
    have HT := Hid.mk VR.there
    have BR := belowCells B (show w.heap.size ≤ w.heap.size by (first | omega | (simp; done) | (simp; omega))) 0 [.int .i64 3, .slice none 0 0]
    replace BR := Hid.mk BR
    obtain ⟨s_VR, f_VR, z_VR⟩ := VR.open
    go_wp2_with (first | (go_at_call 47; refine (CI.out _).mono ?_; rintro e wq ⟨rfl, rfl⟩) | (go_at_call 52; (first | refine (CWa.out _).mono ?_ | refine (CWb.out _).mono ?_ | refine (CWn.out _).mono ?_); rintro e wq ⟨rfl, rfl⟩) | (refine wpList_store_mid rfl 29 _ _ rfl (w.heap.size) 0 #[.int .i64 3, .slice none 0 0] rfl rfl HT.out (by kernel_rfl) (by kernel_rfl) ?_))
    refine bodyPost_ret (v := .agg #[.int .i64 3, .slice none 0 0]) (results_row Try.results15 _ _ (w.heap.size) [.int .i64 3, .slice none 0 0] _ rfl VF.out Try.underlying29 rfl (by kernel_rfl)) rfl ⟨none, 0, rfl, own_none, BR.out⟩
  · skip
    rw [e1, e2]
    rw [h1] at CI
    rw [h2] at CWa
    rw [h3] at CWb
    rw [h4] at CWn
    have hm3 : (m : Int) > 300 := by omega
    replace CI := Hid.mk CI
    replace CWa := Hid.mk CWa
    replace CWb := Hid.mk CWb
    replace CWn := Hid.mk CWn
    clear e1 e2
    go_enter Try.func15, Try.ntmps15
    have B := Below.refl w.heap.size w
    replace B := thenB B (belowA w (.cells #[.int .i64 0, .slice none 0 0] 29))
    have VR := V.new w [.int .i64 0, .slice none 0 0] 29
    obtain ⟨s_VR, f_VR, z_VR⟩ := VR.open
    have Bo := B
    clear s_VR f_VR z_VR
    have VF := Hid.mk (VR.filled [.int .i64 2, .slice none 0 0] rfl)
    have HT := Hid.mk VR.there
    have BR := belowCells B (show w.heap.size ≤ w.heap.size by (first | omega | (simp; done) | (simp; omega))) 0 [.int .i64 2, .slice none 0 0]
    replace BR := Hid.mk BR
    obtain ⟨s_VR, f_VR, z_VR⟩ := VR.open
    go_wp2_with (first | (go_at_call 47; refine (CI.out _).mono ?_; rintro e wq ⟨rfl, rfl⟩) | (go_at_call 52; (first | refine (CWa.out _).mono ?_ | refine (CWb.out _).mono ?_ | refine (CWn.out _).mono ?_); rintro e wq ⟨rfl, rfl⟩) | (refine wpList_store_mid rfl 29 _ _ rfl (w.heap.size) 0 #[.int .i64 2, .slice none 0 0] rfl rfl HT.out (by kernel_rfl) (by kernel_rfl) ?_))
    refine bodyPost_ret (v := .agg #[.int .i64 2, .slice none 0 0]) (results_row Try.results15 _ _ (w.heap.size) [.int .i64 2, .slice none 0 0] _ rfl VF.out Try.underlying29 rfl (by kernel_rfl)) rfl ⟨none, 0, rfl, own_none, BR.out⟩
  · skip
    rw [e1, e2]
    rw [h1] at CI
    rw [h2] at CWa
    rw [h3] at CWb
    rw [h4] at CWn
    have hm3 : (m : Int) ≤ 300 := by omega
    obtain ⟨i0, hi, q00, q01, q02⟩ := info_parts Try.info_u8
    have g1 := btw_iff.1 h1
    have g2 := btw_iff.1 h2
    have g3 := btw_iff.1 h3
    have g4 := btw_iff.1 h4
    obtain ⟨k0, k9⟩ := g1
    have k00 : 0 ≤ kind := by omega
    have k25 : kind < 256 := by omega
    have C4a := Hid.mk (fun w => l1Bytes_ok a 4 w g2.1 (by omega))
    have C4b := Hid.mk (fun w => l1Bytes_ok b 4 w g3.1 (by omega))
    have C4n := Hid.mk (fun w => l1Bytes_ok n 4 w g4.1 (by omega))
    have C2m := Hid.mk (fun w => l1Bytes_ok (m : Int) 2 w (by omega) (by omega))
    replace CI := Hid.mk CI
    replace CWa := Hid.mk CWa
    replace CWb := Hid.mk CWb
    replace CWn := Hid.mk CWn
    clear e1 e2
    go_enter Try.func15, Try.ntmps15
    have B := Below.refl w.heap.size w
    replace B := thenB B (belowA w (.cells #[.int .i64 0, .slice none 0 0] 29))
    have VR := V.new w [.int .i64 0, .slice none 0 0] 29
    obtain ⟨s_VR, f_VR, z_VR⟩ := VR.open
    have Bo := B
    clear s_VR f_VR z_VR
    have OO := Own.lit (w.alloc (.cells #[.int .i64 0, .slice none 0 0] 29)) 5 [32, kind] (by unfold maxLen; simp)
    simp only [World.size_alloc, List.length_cons, List.length_nil] at OO
    replace VR := VR.kept (belowA (w.alloc (.cells #[.int .i64 0, .slice none 0 0] 29)) (.cells #[.int .u8 32, .int .u8 kind] 5))
    replace B := thenB B (belowA (w.alloc (.cells #[.int .i64 0, .slice none 0 0] 29)) (.cells #[.int .u8 32, .int .u8 kind] 5))
    have OQ := Hid.mk OO
    clear OO Bo
    obtain ⟨s_VR, f_VR, z_VR⟩ := VR.open
    go_wp2_with (first | (go_at_call 47; refine (CI.out _).mono ?_; rintro e wq ⟨rfl, rfl⟩) | (go_at_call 52; (first | refine (CWa.out _).mono ?_ | refine (CWb.out _).mono ?_ | refine (CWn.out _).mono ?_); rintro e wq ⟨rfl, rfl⟩) | fail)
    refine (C4a.out _).mono ?_
    rintro e wa1 ⟨ca1, da1, rfl, Oa1, ba1⟩
    clear s_VR f_VR z_VR
    have P1 := Hid.mk (OQ.out.kept ba1)
    have Na1 := Hid.mk Oa1.nocap
    have Ra1 := Hid.mk Oa1.rd
    have Sa1 := ba1.size
    try simp only [World.size_alloc] at Sa1
    replace VR := VR.kept ba1
    replace B := thenB B ba1
    clear ba1 Oa1 OQ
    replace B := Hid.mk B
    replace VR := Hid.mk VR
    go_wp2_with (at_builtin; go_loud (refine wpList_put _ rfl _ _ 22 rfl (w.heap.size + 1) 5 i0 Try.underlying22 hi q00 q01 q02 _ _ 2 _ rfl P1.out rfl _ 4 _ _ rfl Ra1.out (length_putN _ _) Na1.out 6 ([32, kind] ++ putN a 4) (by omega) rfl (by omega) (by omega) ?_))
    intro cb1 db1 wb1 Ob1 bb1
    have Sb1 : w.heap.size + 1 ≤ wb1.heap.size := by have h1 := Ob1.some_of (by simp); obtain ⟨g4, rfl, h3⟩ := h1; have := (Ob1.lt _ rfl).2; simp only at this; omega
    clear P1
    replace VR := VR.out.keptB (by omega) bb1
    replace B := B.out.trans (bb1.mono (by omega))
    have Q1 := Hid.mk Ob1
    clear bb1 Ob1
    obtain ⟨s_VR, f_VR, z_VR⟩ := VR.open
    go_wp2_with (first | (go_at_call 47; refine (CI.out _).mono ?_; rintro e wq ⟨rfl, rfl⟩) | (go_at_call 52; (first | refine (CWa.out _).mono ?_ | refine (CWb.out _).mono ?_ | refine (CWn.out _).mono ?_); rintro e wq ⟨rfl, rfl⟩) | fail)
    refine (C4b.out _).mono ?_
    rintro e wa2 ⟨ca2, da2, rfl, Oa2, ba2⟩
    clear s_VR f_VR z_VR
    have P2 := Hid.mk (Q1.out.kept ba2)
    have Na2 := Hid.mk Oa2.nocap
    have Ra2 := Hid.mk Oa2.rd
    have Sa2 := ba2.size
    try simp only [World.size_alloc] at Sa2
    replace VR := VR.kept ba2
    replace B := thenB B ba2
    clear ba2 Oa2 Q1
    replace B := Hid.mk B
    replace VR := Hid.mk VR
    go_wp2_with (at_builtin; go_loud (refine wpList_put _ rfl _ _ 22 rfl (w.heap.size + 1) 5 i0 Try.underlying22 hi q00 q01 q02 _ _ 6 _ rfl P2.out (by simp [length_putN]) _ 4 _ _ rfl Ra2.out (length_putN _ _) Na2.out 10 (([32, kind] ++ putN a 4) ++ putN b 4) (by omega) rfl (by omega) (by omega) ?_))
    intro cb2 db2 wb2 Ob2 bb2
    have Sb2 : w.heap.size + 1 ≤ wb2.heap.size := by have h1 := Ob2.some_of (by simp); obtain ⟨g4, rfl, h3⟩ := h1; have := (Ob2.lt _ rfl).2; simp only at this; omega
    clear P2
    replace VR := VR.out.keptB (by omega) bb2
    replace B := B.out.trans (bb2.mono (by omega))
    have Q2 := Hid.mk Ob2
    clear bb2 Ob2
    obtain ⟨s_VR, f_VR, z_VR⟩ := VR.open
    go_wp2_with (first | (go_at_call 47; refine (CI.out _).mono ?_; rintro e wq ⟨rfl, rfl⟩) | (go_at_call 52; (first | refine (CWa.out _).mono ?_ | refine (CWb.out _).mono ?_ | refine (CWn.out _).mono ?_); rintro e wq ⟨rfl, rfl⟩) | fail)
    refine (C4n.out _).mono ?_
    rintro e wa3 ⟨ca3, da3, rfl, Oa3, ba3⟩
    clear s_VR f_VR z_VR
    have P3 := Hid.mk (Q2.out.kept ba3)
    have Na3 := Hid.mk Oa3.nocap
    have Ra3 := Hid.mk Oa3.rd
    have Sa3 := ba3.size
    try simp only [World.size_alloc] at Sa3
    replace VR := VR.kept ba3
    replace B := thenB B ba3
    clear ba3 Oa3 Q2
    replace B := Hid.mk B
    replace VR := Hid.mk VR
    go_wp2_with (at_builtin; go_loud (refine wpList_put _ rfl _ _ 22 rfl (w.heap.size + 1) 5 i0 Try.underlying22 hi q00 q01 q02 _ _ 10 _ rfl P3.out (by simp [length_putN]) _ 4 _ _ rfl Ra3.out (length_putN _ _) Na3.out 14 ((([32, kind] ++ putN a 4) ++ putN b 4) ++ putN n 4) (by omega) rfl (by omega) (by omega) ?_))
    intro cb3 db3 wb3 Ob3 bb3
    have Sb3 : w.heap.size + 1 ≤ wb3.heap.size := by have h1 := Ob3.some_of (by simp); obtain ⟨g4, rfl, h3⟩ := h1; have := (Ob3.lt _ rfl).2; simp only at this; omega
    clear P3
    replace VR := VR.out.keptB (by omega) bb3
    replace B := B.out.trans (bb3.mono (by omega))
    have Q3 := Hid.mk Ob3
    clear bb3 Ob3
    obtain ⟨s_VR, f_VR, z_VR⟩ := VR.open
    go_wp2_with (first | (go_at_call 47; refine (CI.out _).mono ?_; rintro e wq ⟨rfl, rfl⟩) | (go_at_call 52; (first | refine (CWa.out _).mono ?_ | refine (CWb.out _).mono ?_ | refine (CWn.out _).mono ?_); rintro e wq ⟨rfl, rfl⟩) | fail)
    refine (C2m.out _).mono ?_
    rintro e wa4 ⟨ca4, da4, rfl, Oa4, ba4⟩
    clear s_VR f_VR z_VR
    have P4 := Hid.mk (Q3.out.kept ba4)
    have Na4 := Hid.mk Oa4.nocap
    have Ra4 := Hid.mk Oa4.rd
    have Sa4 := ba4.size
    try simp only [World.size_alloc] at Sa4
    replace VR := VR.kept ba4
    replace B := thenB B ba4
    clear ba4 Oa4 Q3
    replace B := Hid.mk B
    replace VR := Hid.mk VR
    go_wp2_with (at_builtin; go_loud (refine wpList_put _ rfl _ _ 22 rfl (w.heap.size + 1) 5 i0 Try.underlying22 hi q00 q01 q02 _ _ 14 _ rfl P4.out (by simp [length_putN]) _ 2 _ _ rfl Ra4.out (length_putN _ _) Na4.out 16 (((([32, kind] ++ putN a 4) ++ putN b 4) ++ putN n 4) ++ putN (m : Int) 2) (by omega) rfl (by omega) (by omega) ?_))
    intro cb4 db4 wb4 Ob4 bb4
    have Sb4 : w.heap.size + 1 ≤ wb4.heap.size := by have h1 := Ob4.some_of (by simp); obtain ⟨g4, rfl, h3⟩ := h1; have := (Ob4.lt _ rfl).2; simp only at this; omega
    clear P4
    replace VR := VR.out.keptB (by omega) bb4
    replace B := B.out.trans (bb4.mono (by omega))
    have Q4 := Hid.mk Ob4
    clear bb4 Ob4
    have RB := Hid.mk (HR.out.kept B)
    replace B := Hid.mk B
    replace VR := Hid.mk VR
    go_wp2_with (at_builtin; go_loud (refine wpList_put _ rfl _ _ 22 rfl (w.heap.size + 1) 5 i0 Try.underlying22 hi q00 q01 q02 _ _ 16 _ rfl Q4.out (by simp [length_putN]) _ m _ _ rfl RB.out hm hca (16 + m) (frmP kind a b n body) (by omega) HFP.out (by omega) (by omega) ?_))
    intro c9 d9 w9 O b9
    replace VR := VR.out.keptB (by omega) b9
    replace B := B.out.trans (b9.mono (by omega))
    clear b9 Q4
    have OL := Hid.mk (fun b hb => (O.lt b hb).1)
    have VF := Hid.mk (VR.filled [.int .i64 0, .slice c9 (16 + m) d9] rfl)
    have HT := Hid.mk VR.there
    have BR := belowCells B (show w.heap.size ≤ w.heap.size by (first | omega | (simp; done) | (simp; omega))) 0 [.int .i64 0, .slice c9 (16 + m) d9]
    replace BR := Hid.mk BR
    have HO := Hid.mk ((O.mono (show w.heap.size ≤ _ by omega)).apart8 (B := w.heap.size) (by intro b hb; have := OL.out b hb; omega) 0 [.int .i64 0, .slice c9 (16 + m) d9])
    obtain ⟨s_VR, f_VR, z_VR⟩ := VR.open
    go_wp2_with (first | (go_at_call 47; refine (CI.out _).mono ?_; rintro e wq ⟨rfl, rfl⟩) | (go_at_call 52; (first | refine (CWa.out _).mono ?_ | refine (CWb.out _).mono ?_ | refine (CWn.out _).mono ?_); rintro e wq ⟨rfl, rfl⟩) | (refine wpList_store_mid rfl 29 _ _ rfl (w.heap.size) 0 #[.int .i64 0, .slice c9 (16 + m) d9] rfl rfl HT.out (by kernel_rfl) (by kernel_rfl) ?_))
    refine bodyPost_ret (v := .agg #[.int .i64 0, .slice c9 (16 + m) d9]) (results_row Try.results15 _ _ (w.heap.size) [.int .i64 0, .slice c9 (16 + m) d9] _ rfl VF.out Try.underlying29 rfl (by kernel_rfl)) rfl ⟨c9, d9, by rw [HFL.out], HO.out, BR.out⟩

end Go.Proofs.Ytfldgeokigcokaa

/- DecodeFrame: the model. -/
namespace Go.Proofs.Ytfldgeokigcokaa
open Go.RowKit

/-- What is read of a frame's bytes: its code, a number, the load. -/
@[irreducible] def frC (ds : List Int) : Int := if fdB ds = true then 0 else 5
@[irreducible] def frV (ds : List Int) (v : Int) : Int := if fdB ds = true then v else 0
@[irreducible] def frL (ds : List Int) : List Int := if fdB ds = true then ds.drop 16 else []

theorem fr_no {ds : List Int} (h : fdB ds = false) : frC ds = 5 ∧ (∀ v, frV ds v = 0) ∧ frL ds = [] := by
  refine ⟨by unfold frC; rw [h]; rfl, fun v => by unfold frV; rw [h]; rfl, by unfold frL; rw [h]; rfl⟩

theorem fr_yes {ds : List Int} (h : fdB ds = true) : frC ds = 0 ∧ (∀ v, frV ds v = v) ∧ frL ds = ds.drop 16 := by
  refine ⟨by unfold frC; rw [h]; rfl, fun v => by unfold frV; rw [h]; rfl, by unfold frL; rw [h]; rfl⟩

theorem fd_ways (ds : List Int) : (btw (ds.length : Int) 16 316 = false ∧ fdB ds = false)
    ∨ (btw (ds.length : Int) 16 316 = true ∧ (ds.getD 0 0 != 32) = true ∧ fdB ds = false)
    ∨ (btw (ds.length : Int) 16 316 = true ∧ (ds.getD 0 0 != 32) = false ∧ btw (ds.getD 1 0) 1 9 = false ∧ fdB ds = false)
    ∨ (btw (ds.length : Int) 16 316 = true ∧ (ds.getD 0 0 != 32) = false ∧ btw (ds.getD 1 0) 1 9 = true ∧ (takeN ds 14 2 != (ds.length : Int) - 16) = true ∧ fdB ds = false)
    ∨ (btw (ds.length : Int) 16 316 = true ∧ (ds.getD 0 0 != 32) = false ∧ btw (ds.getD 1 0) 1 9 = true ∧ (takeN ds 14 2 != (ds.length : Int) - 16) = false ∧ fdB ds = true) := by
  unfold fdB
  generalize ds.getD 0 0 = x0
  generalize takeN ds 14 2 = x1
  generalize btw (ds.length : Int) 16 316 = b0
  generalize btw (ds.getD 1 0) 1 9 = b1
  by_cases h0 : x0 = 32
  · by_cases h1 : x1 = (ds.length : Int) - 16
    · cases b0 <;> cases b1 <;> simp [h0, h1]
    · cases b0 <;> cases b1 <;> simp [h0, h1]
  · cases b0 <;> cases b1 <;> simp [h0]

theorem build_fr5 (w : World) : (Instr.build 26 #[(0, .int .i64 5)]).run Try.prog w = .ok (.agg #[.int .i64 5, .int .i64 0, .int .i64 0, .int .i64 0, .int .i64 0, .slice none 0 0]) w := run_build w 26 _ _ (by kernel_rfl)
theorem build_frv (a b c d : Int) (x : Option Addr) (n y : Nat) (w : World) : (Instr.build 26 #[(1, .int .i64 a), (2, .int .i64 b), (3, .int .i64 c), (4, .int .i64 d), (5, .slice x n y)]).run Try.prog w = .ok (.agg #[.int .i64 0, .int .i64 a, .int .i64 b, .int .i64 c, .int .i64 d, .slice x n y]) w := run_build w 26 _ _ (by kernel_rfl)

set_option maxRecDepth 20000 in
set_option maxHeartbeats 16000000 in
theorem specDecodeFrame_any (b : Option Addr) (n ca : Nat) (ds : List Int) (w : World) (hr : Rd .u8 w b ds) (hb : Bytes ds) (hn : ds.length = n) (hx : n ≤ 1048576) (hca : n ≤ ca) :
    Calls Try.prog 12 #[.slice b n ca] w fun e w' => ∃ c d, e = .returned (.agg #[.int .i64 (frC ds), .int .i64 (frV ds (ds.getD 1 0)), .int .i64 (frV ds (takeN ds 2 4)), .int .i64 (frV ds (takeN ds 6 4)), .int .i64 (frV ds (takeN ds 10 4)), .slice c (frL ds).length d]) ∧ Own .u8 5 w' w.heap.size c d (frL ds) ∧ Below w.heap.size w w' := by
  have q1 := build_fr5
  have q2 := build_frv
  have HR := Hid.mk hr
  have HW := fd_ways ds
  rw [hn] at HW
  have CI := l1In_ok (n : Int) 16 316
  obtain ⟨i0, hi, g0, g1, g2⟩ := info_parts Try.info_u8
  rcases HW with ⟨h1, hf⟩ | ⟨h1, h2, hf⟩ | ⟨h1, h2, h3, hf⟩ | ⟨h1, h2, h3, h4, hf⟩ | ⟨h1, h2, h3, h4, hf⟩
  · obtain ⟨e1, e2, e3⟩ := fr_no hf
    rw [e1, e2, e2, e2, e2, e3]
    rw [h1] at CI
    replace CI := Hid.mk CI
    have CJ := CI
    clear e1 e2 e3 hf h1 hr
    go_enter Try.func12, Try.ntmps12
    have B := Below.refl w.heap.size w
    replace B := thenB B (belowA w (.cells #[.int .i64 0, .int .i64 0, .int .i64 0, .int .i64 0, .int .i64 0, .slice none 0 0] 26))
    have VR := V.new w [.int .i64 0, .int .i64 0, .int .i64 0, .int .i64 0, .int .i64 0, .slice none 0 0] 26
    obtain ⟨s_VR, f_VR, z_VR⟩ := VR.open
    have Bo := B
    go_wp2_with fail
    refine (CI.out _).mono ?_
    rintro e wq ⟨rfl, rfl⟩
    clear s_VR f_VR z_VR
    have VF := Hid.mk (VR.filled [.int .i64 5, .int .i64 0, .int .i64 0, .int .i64 0, .int .i64 0, .slice none 0 0] rfl)
    have HT := Hid.mk VR.there
    have BR := belowCells B (show w.heap.size ≤ w.heap.size by (first | omega | (simp; done) | (simp; omega))) 0 [.int .i64 5, .int .i64 0, .int .i64 0, .int .i64 0, .int .i64 0, .slice none 0 0]
    replace BR := Hid.mk BR
    obtain ⟨s_VR, f_VR, z_VR⟩ := VR.open
    go_wp2_with (refine wpList_store_mid rfl 26 _ _ rfl (w.heap.size) 0 #[.int .i64 5, .int .i64 0, .int .i64 0, .int .i64 0, .int .i64 0, .slice none 0 0] rfl rfl HT.out (by kernel_rfl) (by kernel_rfl) ?_)
    refine bodyPost_ret (v := .agg #[.int .i64 5, .int .i64 0, .int .i64 0, .int .i64 0, .int .i64 0, .slice none 0 0]) (results_row Try.results12 _ _ (w.heap.size) [.int .i64 5, .int .i64 0, .int .i64 0, .int .i64 0, .int .i64 0, .slice none 0 0] _ rfl VF.out Try.underlying26 rfl (by kernel_rfl)) rfl ⟨none, 0, rfl, own_none, BR.out⟩
  all_goals
    have h16 := btw_iff.1 h1
    obtain ⟨b2, o2, rfl, hcell⟩ : ∃ b2 o2, b = some ⟨b2, o2, none⟩ ∧ ∀ i, i < ds.length → w.cell? ⟨b2, o2 + i, none⟩ = some (.int .u8 (ds.getD i 0)) := by
      rcases hr with h | ⟨b2, o2, rfl, hcell⟩
      · subst h; simp at hn; omega
      · exact ⟨_, _, rfl, hcell⟩
    have hlt : b2 < w.heap.size := World.block_lt_of_cell? (a := ⟨b2, o2 + 0, none⟩) w (hcell 0 (by omega))
    have CT := Hid.mk (fun (p m : Nat) (hm : m ≤ 7) (hp : p + m ≤ n) w h => l1Take_ok (some ⟨b2, o2, none⟩) n ca p m ds w h hb hn (by unfold maxLen; omega) hm hp)
    rw [h1] at CI
    replace CI := Hid.mk CI
    have k0 : (16 : Int) ≤ (n : Int) := by omega
    have k1 : (1 : Int) < (n : Int) := by omega
    have k2 : (0 : Int) < (n : Int) := by omega
    have c0 := (belowA w (.cells #[.int .i64 0, .int .i64 0, .int .i64 0, .int .i64 0, .int .i64 0, .slice none 0 0] 26)).cell (p := ⟨b2, o2 + 0, none⟩) hlt
    have c1 := (belowA w (.cells #[.int .i64 0, .int .i64 0, .int .i64 0, .int .i64 0, .int .i64 0, .slice none 0 0] 26)).cell (p := ⟨b2, o2 + 1, none⟩) hlt
    rw [hcell 0 (by omega)] at c0
    rw [hcell 1 (by omega)] at c1
    simp only [Nat.add_zero] at c0
    have hc1 := Hid.mk (hcell 1 (by omega))
    obtain ⟨d0, hd0⟩ : ∃ d0, ds.getD 0 0 = d0 := ⟨_, rfl⟩
    obtain ⟨d1, hd1⟩ : ∃ d1, ds.getD 1 0 = d1 := ⟨_, rfl⟩
    have hb1 := hb.at 1
    rw [hd1] at hb1 c1 hc1
    obtain ⟨hb1a, hb1b⟩ := hb1
    have hwr : IntKind.i64.wrap d1 = d1 := by rw [IntKind.wrap_i64]; omega
    rw [hd0] at c0 h2
    clear hcell hr
  · obtain ⟨e1, e2, e3⟩ := fr_no hf
    rw [e1, e2, e2, e2, e2, e3]
    have CJ := CI
    clear e1 e2 e3 hf h1
    go_enter Try.func12, Try.ntmps12
    have B := Below.refl w.heap.size w
    replace B := thenB B (belowA w (.cells #[.int .i64 0, .int .i64 0, .int .i64 0, .int .i64 0, .int .i64 0, .slice none 0 0] 26))
    have VR := V.new w [.int .i64 0, .int .i64 0, .int .i64 0, .int .i64 0, .int .i64 0, .slice none 0 0] 26
    obtain ⟨s_VR, f_VR, z_VR⟩ := VR.open
    have Bo := B
    go_wp2_with fail
    refine (CI.out _).mono ?_
    rintro e wq ⟨rfl, rfl⟩
    clear s_VR f_VR z_VR
    have VF := Hid.mk (VR.filled [.int .i64 5, .int .i64 0, .int .i64 0, .int .i64 0, .int .i64 0, .slice none 0 0] rfl)
    have HT := Hid.mk VR.there
    have BR := belowCells B (show w.heap.size ≤ w.heap.size by (first | omega | (simp; done) | (simp; omega))) 0 [.int .i64 5, .int .i64 0, .int .i64 0, .int .i64 0, .int .i64 0, .slice none 0 0]
    replace BR := Hid.mk BR
    obtain ⟨s_VR, f_VR, z_VR⟩ := VR.open
    go_wp2_with (refine wpList_store_mid rfl 26 _ _ rfl (w.heap.size) 0 #[.int .i64 5, .int .i64 0, .int .i64 0, .int .i64 0, .int .i64 0, .slice none 0 0] rfl rfl HT.out (by kernel_rfl) (by kernel_rfl) ?_)
    refine bodyPost_ret (v := .agg #[.int .i64 5, .int .i64 0, .int .i64 0, .int .i64 0, .int .i64 0, .slice none 0 0]) (results_row Try.results12 _ _ (w.heap.size) [.int .i64 5, .int .i64 0, .int .i64 0, .int .i64 0, .int .i64 0, .slice none 0 0] _ rfl VF.out Try.underlying26 rfl (by kernel_rfl)) rfl ⟨none, 0, rfl, own_none, BR.out⟩
  · obtain ⟨e1, e2, e3⟩ := fr_no hf
    rw [e1, e2, e2, e2, e2, e3]
    have CJ := l1In_ok d1 1 9
    rw [hd1] at h3
    rw [h3] at CJ
    replace CJ := Hid.mk CJ
    clear e1 e2 e3 hf h1 h3
    go_enter Try.func12, Try.ntmps12
    have B := Below.refl w.heap.size w
    replace B := thenB B (belowA w (.cells #[.int .i64 0, .int .i64 0, .int .i64 0, .int .i64 0, .int .i64 0, .slice none 0 0] 26))
    have VR := V.new w [.int .i64 0, .int .i64 0, .int .i64 0, .int .i64 0, .int .i64 0, .slice none 0 0] 26
    obtain ⟨s_VR, f_VR, z_VR⟩ := VR.open
    have Bo := B
    go_wp2_with fail
    refine (CI.out _).mono ?_
    rintro e wq ⟨rfl, rfl⟩
    go_wp2_with fail
    refine (CJ.out _).mono ?_
    rintro e wq ⟨rfl, rfl⟩
    clear s_VR f_VR z_VR
    have VF := Hid.mk (VR.filled [.int .i64 5, .int .i64 0, .int .i64 0, .int .i64 0, .int .i64 0, .slice none 0 0] rfl)
    have HT := Hid.mk VR.there
    have BR := belowCells B (show w.heap.size ≤ w.heap.size by (first | omega | (simp; done) | (simp; omega))) 0 [.int .i64 5, .int .i64 0, .int .i64 0, .int .i64 0, .int .i64 0, .slice none 0 0]
    replace BR := Hid.mk BR
    obtain ⟨s_VR, f_VR, z_VR⟩ := VR.open
    go_wp2_with (refine wpList_store_mid rfl 26 _ _ rfl (w.heap.size) 0 #[.int .i64 5, .int .i64 0, .int .i64 0, .int .i64 0, .int .i64 0, .slice none 0 0] rfl rfl HT.out (by kernel_rfl) (by kernel_rfl) ?_)
    refine bodyPost_ret (v := .agg #[.int .i64 5, .int .i64 0, .int .i64 0, .int .i64 0, .int .i64 0, .slice none 0 0]) (results_row Try.results12 _ _ (w.heap.size) [.int .i64 5, .int .i64 0, .int .i64 0, .int .i64 0, .int .i64 0, .slice none 0 0] _ rfl VF.out Try.underlying26 rfl (by kernel_rfl)) rfl ⟨none, 0, rfl, own_none, BR.out⟩
  · obtain ⟨e1, e2, e3⟩ := fr_no hf
    rw [e1, e2, e2, e2, e2, e3]
    have CJ := l1In_ok d1 1 9
    rw [hd1] at h3
    rw [h3] at CJ
    replace CJ := Hid.mk CJ
    obtain ⟨x14, h14⟩ : ∃ x, takeN ds 14 2 = x := ⟨_, rfl⟩
    rw [h14] at h4
    replace h14 := Hid.mk h14
    clear e1 e2 e3 hf h1 h3
    go_enter Try.func12, Try.ntmps12
    have B := Below.refl w.heap.size w
    replace B := thenB B (belowA w (.cells #[.int .i64 0, .int .i64 0, .int .i64 0, .int .i64 0, .int .i64 0, .slice none 0 0] 26))
    have VR := V.new w [.int .i64 0, .int .i64 0, .int .i64 0, .int .i64 0, .int .i64 0, .slice none 0 0] 26
    obtain ⟨s_VR, f_VR, z_VR⟩ := VR.open
    have Bo := B
    go_wp2_with fail
    refine (CI.out _).mono ?_
    rintro e wq ⟨rfl, rfl⟩
    go_wp2_with fail
    refine (CJ.out _).mono ?_
    rintro e wq ⟨rfl, rfl⟩
    go_wp2_with fail
    refine (CT.out 14 2 (by decide) (by omega) _ (HR.out.kept B)).mono ?_
    rintro e w1 ⟨rfl, b1⟩
    clear s_VR f_VR z_VR
    have S1 := b1.size
    simp only [World.size_alloc] at S1
    replace VR := VR.kept b1
    replace B := thenB B b1
    clear b1
    obtain ⟨s_VR, f_VR, z_VR⟩ := VR.open
    have Bo := B
    rw [h14.out]
    clear s_VR f_VR z_VR
    have VF := Hid.mk (VR.filled [.int .i64 5, .int .i64 0, .int .i64 0, .int .i64 0, .int .i64 0, .slice none 0 0] rfl)
    have HT := Hid.mk VR.there
    have BR := belowCells B (show w.heap.size ≤ w.heap.size by (first | omega | (simp; done) | (simp; omega))) 0 [.int .i64 5, .int .i64 0, .int .i64 0, .int .i64 0, .int .i64 0, .slice none 0 0]
    replace BR := Hid.mk BR
    obtain ⟨s_VR, f_VR, z_VR⟩ := VR.open
    go_wp2_with (refine wpList_store_mid rfl 26 _ _ rfl (w.heap.size) 0 #[.int .i64 5, .int .i64 0, .int .i64 0, .int .i64 0, .int .i64 0, .slice none 0 0] rfl rfl HT.out (by kernel_rfl) (by kernel_rfl) ?_)
    refine bodyPost_ret (v := .agg #[.int .i64 5, .int .i64 0, .int .i64 0, .int .i64 0, .int .i64 0, .slice none 0 0]) (results_row Try.results12 _ _ (w.heap.size) [.int .i64 5, .int .i64 0, .int .i64 0, .int .i64 0, .int .i64 0, .slice none 0 0] _ rfl VF.out Try.underlying26 rfl (by kernel_rfl)) rfl ⟨none, 0, rfl, own_none, BR.out⟩
  · obtain ⟨e1, e2, e3⟩ := fr_yes hf
    rw [e1, e2, e2, e2, e2, e3, hd1]
    have CJ := l1In_ok d1 1 9
    rw [hd1] at h3
    rw [h3] at CJ
    replace CJ := Hid.mk CJ
    obtain ⟨x14, h14⟩ : ∃ x, takeN ds 14 2 = x := ⟨_, rfl⟩
    rw [h14] at h4
    replace h14 := Hid.mk h14
    obtain ⟨A, ga⟩ : ∃ x, takeN ds 2 4 = x := ⟨_, rfl⟩
    obtain ⟨C, gb⟩ : ∃ x, takeN ds 6 4 = x := ⟨_, rfl⟩
    obtain ⟨N, gn⟩ : ∃ x, takeN ds 10 4 = x := ⟨_, rfl⟩
    rw [ga, gb, gn]
    replace ga := Hid.mk ga
    replace gb := Hid.mk gb
    replace gn := Hid.mk gn
    obtain ⟨l, hl⟩ : ∃ l, (ds.drop 16).length = l := ⟨_, rfl⟩
    have hln : n - 16 = l := by rw [← hl, List.length_drop, hn]
    replace hl := Hid.mk hl
    clear e1 e2 e3 hf h1 h3
    go_enter Try.func12, Try.ntmps12
    have B := Below.refl w.heap.size w
    replace B := thenB B (belowA w (.cells #[.int .i64 0, .int .i64 0, .int .i64 0, .int .i64 0, .int .i64 0, .slice none 0 0] 26))
    have VR := V.new w [.int .i64 0, .int .i64 0, .int .i64 0, .int .i64 0, .int .i64 0, .slice none 0 0] 26
    obtain ⟨s_VR, f_VR, z_VR⟩ := VR.open
    have Bo := B
    go_wp2_with fail
    refine (CI.out _).mono ?_
    rintro e wq ⟨rfl, rfl⟩
    go_wp2_with fail
    refine (CJ.out _).mono ?_
    rintro e wq ⟨rfl, rfl⟩
    go_wp2_with fail
    refine (CT.out 14 2 (by decide) (by omega) _ (HR.out.kept B)).mono ?_
    rintro e w21 ⟨rfl, b21⟩
    clear s_VR f_VR z_VR
    have S21 := b21.size
    simp only [World.size_alloc] at S21
    replace VR := VR.kept b21
    replace B := thenB B b21
    clear b21
    obtain ⟨s_VR, f_VR, z_VR⟩ := VR.open
    have Bo := B
    rw [h14.out]
    clear s_VR f_VR z_VR
    have c2 : w21.cell? ⟨b2, o2 + 1, none⟩ = some (.int .u8 d1) := ((bcell B).1 _ _ hlt).trans hc1.out
    obtain ⟨Q, hQe⟩ : ∃ Q, w21.heap.size = Q := ⟨_, rfl⟩
    replace hQe := Hid.mk hQe
    rcases Nat.lt_or_ge 16 ca with hca16 | hca16
    · have RS := Hid.mk (show Rd .u8 w21 (some ⟨b2, o2 + 16, none⟩) (ds.drop 16) from by
        rcases HR.out.kept B with h | ⟨b3, o3, e3, h⟩
        · subst h; simp at hn; omega
        · simp only [Option.some.injEq, Addr.mk.injEq, and_true] at e3
          obtain ⟨rfl, rfl⟩ := e3
          refine .inr ⟨_, _, rfl, fun i hi => ?_⟩
          have := h (16 + i) (by rw [List.length_drop] at hi; omega)
          rw [getD_drop, ← this, Nat.add_assoc])
      have hc1a : (16 : Int) < (ca : Int) := by omega
      have hc1b : ¬ ca = 16 := by omega
      have hc1c : ca - 16 ≠ 0 := by omega
      have K : ∀ w' : World, Below w21.heap.size w21 w' → w'.cell? ⟨b2, o2 + 1, none⟩ = some (.int .u8 d1) := fun w' h => ((bcell h).1 _ _ (Nat.lt_of_lt_of_le hlt B.size)).trans c2
      have K := Hid.mk K
      have HRq := Hid.mk (HR.out.kept B)
      have hQ := Hid.mk VR.1
      have hzB := Hid.mk B.size
      replace VR := Hid.mk VR
      replace B := Hid.mk B
      clear c2 c1 Bo
      go_upto_region 4 with fail
      refine wp_region_held_drew (S := (fun w' => w'.cell? ⟨b2, o2 + 1, none⟩ = some (.int .u8 d1))) (by kernel_rfl) (K.out _ (Below.refl _ _).drew) (fun hHeld => ?_)
      have bd : Below w21.heap.size w21 w21.drew := (Below.refl _ _).drew
      generalize w21.drew = wd at *
      refine wpAnyH_take (i := 0) (oi := _) (v := ?vwrs1) rfl (by kernel_rfl) (by kernel_rfl) (by kernel_rfl) (fun _ _ _ h => h) (Or.inl ⟨by kernel_rfl, ?hywrs1⟩) hHeld ?restwrs1
      case hywrs1 => (intro w hSw; (try dsimp only at hSw); go_simp; first | done | with_reducible rfl)
      try simp only [Act.put, List.getElem_toArray, List.getElem_cons_zero, List.setIfInBounds_toArray, List.set_cons_zero, List.set_cons_succ]
      refine wpAnyH_take (i := 1) (oi := _) (v := ?vwrs2) rfl (by kernel_rfl) (by kernel_rfl) (by kernel_rfl) (fun _ _ _ h => h) (Or.inl ⟨by kernel_rfl, ?hywrs2⟩) hHeld ?restwrs2
      case hywrs2 => (intro w hSw; (try dsimp only at hSw); go_simp; first | done | with_reducible rfl)
      try simp only [Act.put, List.getElem_toArray, List.getElem_cons_zero, List.getElem_cons_succ, List.setIfInBounds_toArray, List.set_cons_zero, List.set_cons_succ]
      refine wpAnyH_take (i := 2) (oi := _) (v := ?vwrs3) rfl (by kernel_rfl) (by kernel_rfl) (by kernel_rfl) (fun _ _ _ h => h) (Or.inl ⟨by kernel_rfl, ?hywrs3⟩) hHeld ?restwrs3
      case hywrs3 => (intro w hSw; (try dsimp only at hSw); go_simp; first | done | with_reducible rfl)
      try simp only [Act.put, List.getElem_toArray, List.getElem_cons_zero, List.getElem_cons_succ, List.setIfInBounds_toArray, List.set_cons_zero, List.set_cons_succ]
      refine wpAnyH_take (i := 3) (oi := _) (v := ?vwrs4) rfl (by kernel_rfl) (by kernel_rfl) (by kernel_rfl) (fun _ _ _ h => h) (Or.inl ⟨by kernel_rfl, ?hywrs4⟩) hHeld ?restwrs4
      case hywrs4 => (intro w hSw; (try dsimp only at hSw); go_simp; first | done | with_reducible rfl)
      try simp only [Act.put, List.getElem_toArray, List.getElem_cons_zero, List.getElem_cons_succ, List.setIfInBounds_toArray, List.set_cons_zero, List.set_cons_succ]
      refine wpAnyH_take (i := 4) (oi := _) (v := ?vwrs5) rfl (by kernel_rfl) (by kernel_rfl) (by kernel_rfl) (fun _ _ _ h => h) (Or.inl ⟨by kernel_rfl, ?hywrs5⟩) hHeld ?restwrs5
      case hywrs5 => (intro w hSw; (try dsimp only at hSw); go_simp; first | done | with_reducible rfl)
      try simp only [Act.put, List.getElem_toArray, List.getElem_cons_zero, List.getElem_cons_succ, List.setIfInBounds_toArray, List.set_cons_zero, List.set_cons_succ]
      refine wpAnyH_take (i := 6) (oi := _) (v := ?vwrs6) rfl (by kernel_rfl) (by kernel_rfl) (by kernel_rfl) (fun _ _ _ h => h) (Or.inl ⟨by kernel_rfl, ?hywrs6⟩) hHeld ?restwrs6
      case hywrs6 => (intro w hSw; (try dsimp only at hSw); go_simp; first | done | with_reducible rfl)
      try simp only [Act.put, List.getElem_toArray, List.getElem_cons_zero, List.getElem_cons_succ, List.setIfInBounds_toArray, List.set_cons_zero, List.set_cons_succ]
      refine wpAnyH_take (i := 8) (oi := _) (v := ?vwrs7) rfl (by kernel_rfl) (by kernel_rfl) (by kernel_rfl) (fun _ _ _ h => h) (Or.inl ⟨by kernel_rfl, ?hywrs7⟩) hHeld ?restwrs7
      case hywrs7 => (intro w hSw; (try dsimp only at hSw); go_simp; first | done | with_reducible rfl)
      try simp only [Act.put, List.getElem_toArray, List.getElem_cons_zero, List.getElem_cons_succ, List.setIfInBounds_toArray, List.set_cons_zero, List.set_cons_succ]
      refine wpAnyH_take (i := 11) (oi := _) (v := ?vwrs8) rfl (by kernel_rfl) (by kernel_rfl) (by kernel_rfl) (fun _ _ _ h => h) (Or.inl ⟨by kernel_rfl, ?hywrs8⟩) hHeld ?restwrs8
      case hywrs8 => (intro w hSw; (try dsimp only at hSw); go_simp; first | done | with_reducible rfl)
      try simp only [Act.put, List.getElem_toArray, List.getElem_cons_zero, List.getElem_cons_succ, List.setIfInBounds_toArray, List.set_cons_zero, List.set_cons_succ]
      refine wpAnyH_take (i := 12) (oi := _) (v := ?vwrs9) rfl (by kernel_rfl) (by kernel_rfl) (by kernel_rfl) (fun _ _ _ h => h) (Or.inl ⟨by kernel_rfl, ?hywrs9⟩) hHeld ?restwrs9
      case hywrs9 => (intro w hSw; (try dsimp only at hSw); go_simp; first | done | with_reducible rfl)
      try simp only [Act.put, List.getElem_toArray, List.getElem_cons_zero, List.getElem_cons_succ, List.setIfInBounds_toArray, List.set_cons_zero, List.set_cons_succ]
      refine wpAnyH_ready (rs := [5, 10]) (by kernel_rfl) (by simp) ?_
      refine AllReadyH.cons (o := _) rfl (fun K0 hK0 => ?_) (AllReadyH.cons (o := _) rfl (fun K0 hK0 => ?_) AllReadyH.nil)
      · skip
        go_simp
        go_at_call 48
        refine (CT.out 2 4 (by decide) (by omega) _ (HRq.out.kept bd)).mono ?_
        rintro e wc101 ⟨rfl, bc101⟩
        rw [ga.out]
        refine hK0.out _ _ (K.out _ (thenB bd bc101)) (fun hHeld => ?_)
        clear hK0 K0
        try simp only [Act.put, List.getElem_toArray, List.getElem_cons_zero, List.getElem_cons_succ, List.setIfInBounds_toArray, List.set_cons_zero, List.set_cons_succ]
        refine wpAnyH_ready (rs := [7, 10]) (by kernel_rfl) (by simp) ?_
        refine AllReadyH.cons (o := _) rfl (fun K0 hK0 => ?_) (AllReadyH.cons (o := _) rfl (fun K0 hK0 => ?_) AllReadyH.nil)
        · skip
          go_simp
          go_at_call 48
          refine (CT.out 6 4 (by decide) (by omega) _ (HRq.out.kept (thenB bd bc101))).mono ?_
          rintro e wc102 ⟨rfl, bc102⟩
          rw [gb.out]
          refine hK0.out _ _ (K.out _ (thenB (thenB bd bc101) bc102)) (fun hHeld => ?_)
          clear hK0 K0
          try simp only [Act.put, List.getElem_toArray, List.getElem_cons_zero, List.getElem_cons_succ, List.setIfInBounds_toArray, List.set_cons_zero, List.set_cons_succ]
          refine wpAnyH_ready (rs := [9, 10]) (by kernel_rfl) (by simp) ?_
          refine AllReadyH.cons (o := _) rfl (fun K0 hK0 => ?_) (AllReadyH.cons (o := _) rfl (fun K0 hK0 => ?_) AllReadyH.nil)
          · skip
            go_simp
            go_at_call 48
            refine (CT.out 10 4 (by decide) (by omega) _ (HRq.out.kept (thenB (thenB bd bc101) bc102))).mono ?_
            rintro e wc103 ⟨rfl, bc103⟩
            rw [gn.out]
            refine hK0.out _ _ (K.out _ (thenB (thenB (thenB bd bc101) bc102) bc103)) (fun hHeld => ?_)
            clear hK0 K0
            try simp only [Act.put, List.getElem_toArray, List.getElem_cons_zero, List.getElem_cons_succ, List.setIfInBounds_toArray, List.set_cons_zero, List.set_cons_succ]
            refine wpAnyH_ready (rs := [10]) (by kernel_rfl) (by simp) ?_
            refine AllReadyH.cons (o := _) rfl (fun K0 hK0 => ?_) AllReadyH.nil
            go_simp
            have bq104 := belowA wc103 (.cells #[] 5)
            have OE : Own .u8 5 (wc103.alloc (.cells #[] 5)) Q (some ⟨wc103.heap.size, 0, none⟩) 0 [] := (Own.lit wc103 5 [] (Nat.zero_le _)).mono (by rw [← hQe.out]; exact ((thenB (thenB (thenB bd bc101) bc102) bc103)).size)
            refine hK0.out _ _ (K.out _ (thenB (thenB (thenB (thenB bd bc101) bc102) bc103) bq104)) (fun hHeld => ?_)
            clear hK0 K0
            try simp only [Act.put, List.getElem_toArray, List.getElem_cons_zero, List.getElem_cons_succ, List.setIfInBounds_toArray, List.set_cons_zero, List.set_cons_succ]
            generalize wc103.alloc (.cells #[] 5) = wm104 at *
            skip
            refine wpAnyH_ready (rs := [13]) (by kernel_rfl) (by simp) ?_
            refine AllReadyH.cons (o := _) rfl (fun K0 hK0 => ?_) AllReadyH.nil
            have hbw := OE.lt _ rfl
            have hsz := ((thenB (thenB (thenB (thenB bd bc101) bc102) bc103) bq104)).size
            have accB := Hid.mk ((thenB (thenB (thenB (thenB bd bc101) bc102) bc103) bq104))
            refine step_put _ rfl _ _ 22 rfl Q 5 i0 Try.underlying22 hi g0 g1 g2 _ 0 0 [] rfl OE rfl (some ⟨b2, o2 + 16, none⟩) l (ca - 16) (ds.drop 16) rfl (RS.out.kept accB.out) hl.out (fun h => by cases h) l (ds.drop 16) (by omega) (by simp) (by omega) (by have := hQe.out; omega) ?_
            intro c5 d5 w5 O5 b5
            have bq5 : Below w21.heap.size w21 w5 := (accB.out).trans (b5.mono (by have := hQe.out; omega))
            refine hK0.out _ _ (K.out _ bq5) (fun hHeld => ?_)
            clear hK0 K0
            try simp only [Act.put, List.getElem_toArray, List.getElem_cons_zero, List.getElem_cons_succ, List.setIfInBounds_toArray, List.set_cons_zero, List.set_cons_succ]
            refine wpAnyH_take (i := 14) (oi := _) (v := ?vwrs10) rfl (by kernel_rfl) (by kernel_rfl) (by kernel_rfl) (fun _ _ _ h => h) (Or.inl ⟨by kernel_rfl, ?hywrs10⟩) hHeld ?restwrs10
            case hywrs10 => (intro w hSw; (try dsimp only at hSw); go_simp; first | done | with_reducible rfl)
            try simp only [Act.put, List.getElem_toArray, List.getElem_cons_zero, List.getElem_cons_succ, List.setIfInBounds_toArray, List.set_cons_zero, List.set_cons_succ]
            have OL := Hid.mk (fun b hb => (O5.lt b hb).1)
            have VD := VR.out.kept bq5
            have HT := Hid.mk VD.there
            have VF := VD.filled [.int .i64 0, .int .i64 d1, .int .i64 A, .int .i64 C, .int .i64 N, .slice c5 l d5] rfl
            have BR := belowCells (thenB B.out bq5) (Nat.le_refl w.heap.size) 0 [.int .i64 0, .int .i64 d1, .int .i64 A, .int .i64 C, .int .i64 N, .slice c5 l d5]
            have HO := (O5.mono (show w.heap.size ≤ Q by have := hQ.out; have := hQe.out; omega)).apart8 (B := w.heap.size) (by intro b hb; have := OL.out b hb; have := hQ.out; have := hQe.out; omega) 0 [.int .i64 0, .int .i64 d1, .int .i64 A, .int .i64 C, .int .i64 N, .slice c5 l d5]
            have KA : (World.setCells w5 w.heap.size 0 [.int .i64 0, .int .i64 d1, .int .i64 A, .int .i64 C, .int .i64 N, .slice c5 l d5]).cell? ⟨b2, o2 + 1, none⟩ = some (.int .u8 d1) := (cells_far (by omega) 0 [.int .i64 0, .int .i64 d1, .int .i64 A, .int .i64 C, .int .i64 N, .slice c5 l d5]).trans (K.out _ bq5)
            obtain ⟨w6, hw6⟩ : ∃ w6, World.setCells w5 w.heap.size 0 [.int .i64 0, .int .i64 d1, .int .i64 A, .int .i64 C, .int .i64 N, .slice c5 l d5] = w6 := ⟨_, rfl⟩
            rw [hw6] at VF BR HO KA
            replace hw6 := Hid.mk hw6
            replace VF := Hid.mk VF
            replace BR := Hid.mk BR
            replace HO := Hid.mk HO
            replace KA := Hid.mk KA
            clear O5 b5 bq5 VD OL
            refine wpAnyH_ready (rs := [15]) (by kernel_rfl) (by simp) ?_
            refine AllReadyH.cons (o := _) rfl (fun K0 hK0 => ?_) AllReadyH.nil
            rw [if_pos (by rfl)]
            refine wp_stroke w6 26 _ _ rfl w.heap.size 0 #[.int .i64 0, .int .i64 d1, .int .i64 A, .int .i64 C, .int .i64 N, .slice c5 l d5] rfl rfl HT.out (by kernel_rfl) (by kernel_rfl) hw6.out ?_
            refine hK0.out _ _ KA.out (fun hHeld => ?_)
            clear hK0 K0 hHeld KA HT
            refine wpAnyH_done (by kernel_rfl) ?_ _
            go_wp2
            refine bodyPost_ret (v := .agg #[.int .i64 0, .int .i64 d1, .int .i64 A, .int .i64 C, .int .i64 N, .slice c5 l d5]) (results_row Try.results12 _ _ (w.heap.size) [.int .i64 0, .int .i64 d1, .int .i64 A, .int .i64 C, .int .i64 N, .slice c5 l d5] _ rfl VF.out Try.underlying26 rfl (by kernel_rfl)) rfl ⟨c5, d5, by first | rfl | rw [hl.out], HO.out, BR.out⟩
          · skip
            go_simp
            have bq103 := belowA wc102 (.cells #[] 5)
            have OE : Own .u8 5 (wc102.alloc (.cells #[] 5)) Q (some ⟨wc102.heap.size, 0, none⟩) 0 [] := (Own.lit wc102 5 [] (Nat.zero_le _)).mono (by rw [← hQe.out]; exact ((thenB (thenB bd bc101) bc102)).size)
            refine hK0.out _ _ (K.out _ (thenB (thenB (thenB bd bc101) bc102) bq103)) (fun hHeld => ?_)
            clear hK0 K0
            try simp only [Act.put, List.getElem_toArray, List.getElem_cons_zero, List.getElem_cons_succ, List.setIfInBounds_toArray, List.set_cons_zero, List.set_cons_succ]
            generalize wc102.alloc (.cells #[] 5) = wm103 at *
            skip
            refine wpAnyH_ready (rs := [9]) (by kernel_rfl) (by simp) ?_
            refine AllReadyH.cons (o := _) rfl (fun K0 hK0 => ?_) AllReadyH.nil
            go_simp
            go_at_call 48
            refine (CT.out 10 4 (by decide) (by omega) _ (HRq.out.kept (thenB (thenB (thenB bd bc101) bc102) bq103))).mono ?_
            rintro e wc104 ⟨rfl, bc104⟩
            rw [gn.out]
            replace OE := OE.kept bc104
            refine hK0.out _ _ (K.out _ (thenB (thenB (thenB (thenB bd bc101) bc102) bq103) bc104)) (fun hHeld => ?_)
            clear hK0 K0
            try simp only [Act.put, List.getElem_toArray, List.getElem_cons_zero, List.getElem_cons_succ, List.setIfInBounds_toArray, List.set_cons_zero, List.set_cons_succ]
            refine wpAnyH_ready (rs := [13]) (by kernel_rfl) (by simp) ?_
            refine AllReadyH.cons (o := _) rfl (fun K0 hK0 => ?_) AllReadyH.nil
            have hbw := OE.lt _ rfl
            have hsz := ((thenB (thenB (thenB (thenB bd bc101) bc102) bq103) bc104)).size
            have accB := Hid.mk ((thenB (thenB (thenB (thenB bd bc101) bc102) bq103) bc104))
            refine step_put _ rfl _ _ 22 rfl Q 5 i0 Try.underlying22 hi g0 g1 g2 _ 0 0 [] rfl OE rfl (some ⟨b2, o2 + 16, none⟩) l (ca - 16) (ds.drop 16) rfl (RS.out.kept accB.out) hl.out (fun h => by cases h) l (ds.drop 16) (by omega) (by simp) (by omega) (by have := hQe.out; omega) ?_
            intro c5 d5 w5 O5 b5
            have bq5 : Below w21.heap.size w21 w5 := (accB.out).trans (b5.mono (by have := hQe.out; omega))
            refine hK0.out _ _ (K.out _ bq5) (fun hHeld => ?_)
            clear hK0 K0
            try simp only [Act.put, List.getElem_toArray, List.getElem_cons_zero, List.getElem_cons_succ, List.setIfInBounds_toArray, List.set_cons_zero, List.set_cons_succ]
            refine wpAnyH_take (i := 14) (oi := _) (v := ?vwrs11) rfl (by kernel_rfl) (by kernel_rfl) (by kernel_rfl) (fun _ _ _ h => h) (Or.inl ⟨by kernel_rfl, ?hywrs11⟩) hHeld ?restwrs11
            case hywrs11 => (intro w hSw; (try dsimp only at hSw); go_simp; first | done | with_reducible rfl)
            try simp only [Act.put, List.getElem_toArray, List.getElem_cons_zero, List.getElem_cons_succ, List.setIfInBounds_toArray, List.set_cons_zero, List.set_cons_succ]
            have OL := Hid.mk (fun b hb => (O5.lt b hb).1)
            have VD := VR.out.kept bq5
            have HT := Hid.mk VD.there
            have VF := VD.filled [.int .i64 0, .int .i64 d1, .int .i64 A, .int .i64 C, .int .i64 N, .slice c5 l d5] rfl
            have BR := belowCells (thenB B.out bq5) (Nat.le_refl w.heap.size) 0 [.int .i64 0, .int .i64 d1, .int .i64 A, .int .i64 C, .int .i64 N, .slice c5 l d5]
            have HO := (O5.mono (show w.heap.size ≤ Q by have := hQ.out; have := hQe.out; omega)).apart8 (B := w.heap.size) (by intro b hb; have := OL.out b hb; have := hQ.out; have := hQe.out; omega) 0 [.int .i64 0, .int .i64 d1, .int .i64 A, .int .i64 C, .int .i64 N, .slice c5 l d5]
            have KA : (World.setCells w5 w.heap.size 0 [.int .i64 0, .int .i64 d1, .int .i64 A, .int .i64 C, .int .i64 N, .slice c5 l d5]).cell? ⟨b2, o2 + 1, none⟩ = some (.int .u8 d1) := (cells_far (by omega) 0 [.int .i64 0, .int .i64 d1, .int .i64 A, .int .i64 C, .int .i64 N, .slice c5 l d5]).trans (K.out _ bq5)
            obtain ⟨w6, hw6⟩ : ∃ w6, World.setCells w5 w.heap.size 0 [.int .i64 0, .int .i64 d1, .int .i64 A, .int .i64 C, .int .i64 N, .slice c5 l d5] = w6 := ⟨_, rfl⟩
            rw [hw6] at VF BR HO KA
            replace hw6 := Hid.mk hw6
            replace VF := Hid.mk VF
            replace BR := Hid.mk BR
            replace HO := Hid.mk HO
            replace KA := Hid.mk KA
            clear O5 b5 bq5 VD OL
            refine wpAnyH_ready (rs := [15]) (by kernel_rfl) (by simp) ?_
            refine AllReadyH.cons (o := _) rfl (fun K0 hK0 => ?_) AllReadyH.nil
            rw [if_pos (by rfl)]
            refine wp_stroke w6 26 _ _ rfl w.heap.size 0 #[.int .i64 0, .int .i64 d1, .int .i64 A, .int .i64 C, .int .i64 N, .slice c5 l d5] rfl rfl HT.out (by kernel_rfl) (by kernel_rfl) hw6.out ?_
            refine hK0.out _ _ KA.out (fun hHeld => ?_)
            clear hK0 K0 hHeld KA HT
            refine wpAnyH_done (by kernel_rfl) ?_ _
            go_wp2
            refine bodyPost_ret (v := .agg #[.int .i64 0, .int .i64 d1, .int .i64 A, .int .i64 C, .int .i64 N, .slice c5 l d5]) (results_row Try.results12 _ _ (w.heap.size) [.int .i64 0, .int .i64 d1, .int .i64 A, .int .i64 C, .int .i64 N, .slice c5 l d5] _ rfl VF.out Try.underlying26 rfl (by kernel_rfl)) rfl ⟨c5, d5, by first | rfl | rw [hl.out], HO.out, BR.out⟩
        · skip
          go_simp
          have bq102 := belowA wc101 (.cells #[] 5)
          have OE : Own .u8 5 (wc101.alloc (.cells #[] 5)) Q (some ⟨wc101.heap.size, 0, none⟩) 0 [] := (Own.lit wc101 5 [] (Nat.zero_le _)).mono (by rw [← hQe.out]; exact ((thenB bd bc101)).size)
          refine hK0.out _ _ (K.out _ (thenB (thenB bd bc101) bq102)) (fun hHeld => ?_)
          clear hK0 K0
          try simp only [Act.put, List.getElem_toArray, List.getElem_cons_zero, List.getElem_cons_succ, List.setIfInBounds_toArray, List.set_cons_zero, List.set_cons_succ]
          generalize wc101.alloc (.cells #[] 5) = wm102 at *
          skip
          refine wpAnyH_ready (rs := [7]) (by kernel_rfl) (by simp) ?_
          refine AllReadyH.cons (o := _) rfl (fun K0 hK0 => ?_) AllReadyH.nil
          go_simp
          go_at_call 48
          refine (CT.out 6 4 (by decide) (by omega) _ (HRq.out.kept (thenB (thenB bd bc101) bq102))).mono ?_
          rintro e wc103 ⟨rfl, bc103⟩
          rw [gb.out]
          replace OE := OE.kept bc103
          refine hK0.out _ _ (K.out _ (thenB (thenB (thenB bd bc101) bq102) bc103)) (fun hHeld => ?_)
          clear hK0 K0
          try simp only [Act.put, List.getElem_toArray, List.getElem_cons_zero, List.getElem_cons_succ, List.setIfInBounds_toArray, List.set_cons_zero, List.set_cons_succ]
          refine wpAnyH_ready (rs := [9]) (by kernel_rfl) (by simp) ?_
          refine AllReadyH.cons (o := _) rfl (fun K0 hK0 => ?_) AllReadyH.nil
          go_simp
          go_at_call 48
          refine (CT.out 10 4 (by decide) (by omega) _ (HRq.out.kept (thenB (thenB (thenB bd bc101) bq102) bc103))).mono ?_
          rintro e wc104 ⟨rfl, bc104⟩
          rw [gn.out]
          replace OE := OE.kept bc104
          refine hK0.out _ _ (K.out _ (thenB (thenB (thenB (thenB bd bc101) bq102) bc103) bc104)) (fun hHeld => ?_)
          clear hK0 K0
          try simp only [Act.put, List.getElem_toArray, List.getElem_cons_zero, List.getElem_cons_succ, List.setIfInBounds_toArray, List.set_cons_zero, List.set_cons_succ]
          refine wpAnyH_ready (rs := [13]) (by kernel_rfl) (by simp) ?_
          refine AllReadyH.cons (o := _) rfl (fun K0 hK0 => ?_) AllReadyH.nil
          have hbw := OE.lt _ rfl
          have hsz := ((thenB (thenB (thenB (thenB bd bc101) bq102) bc103) bc104)).size
          have accB := Hid.mk ((thenB (thenB (thenB (thenB bd bc101) bq102) bc103) bc104))
          refine step_put _ rfl _ _ 22 rfl Q 5 i0 Try.underlying22 hi g0 g1 g2 _ 0 0 [] rfl OE rfl (some ⟨b2, o2 + 16, none⟩) l (ca - 16) (ds.drop 16) rfl (RS.out.kept accB.out) hl.out (fun h => by cases h) l (ds.drop 16) (by omega) (by simp) (by omega) (by have := hQe.out; omega) ?_
          intro c5 d5 w5 O5 b5
          have bq5 : Below w21.heap.size w21 w5 := (accB.out).trans (b5.mono (by have := hQe.out; omega))
          refine hK0.out _ _ (K.out _ bq5) (fun hHeld => ?_)
          clear hK0 K0
          try simp only [Act.put, List.getElem_toArray, List.getElem_cons_zero, List.getElem_cons_succ, List.setIfInBounds_toArray, List.set_cons_zero, List.set_cons_succ]
          refine wpAnyH_take (i := 14) (oi := _) (v := ?vwrs12) rfl (by kernel_rfl) (by kernel_rfl) (by kernel_rfl) (fun _ _ _ h => h) (Or.inl ⟨by kernel_rfl, ?hywrs12⟩) hHeld ?restwrs12
          case hywrs12 => (intro w hSw; (try dsimp only at hSw); go_simp; first | done | with_reducible rfl)
          try simp only [Act.put, List.getElem_toArray, List.getElem_cons_zero, List.getElem_cons_succ, List.setIfInBounds_toArray, List.set_cons_zero, List.set_cons_succ]
          have OL := Hid.mk (fun b hb => (O5.lt b hb).1)
          have VD := VR.out.kept bq5
          have HT := Hid.mk VD.there
          have VF := VD.filled [.int .i64 0, .int .i64 d1, .int .i64 A, .int .i64 C, .int .i64 N, .slice c5 l d5] rfl
          have BR := belowCells (thenB B.out bq5) (Nat.le_refl w.heap.size) 0 [.int .i64 0, .int .i64 d1, .int .i64 A, .int .i64 C, .int .i64 N, .slice c5 l d5]
          have HO := (O5.mono (show w.heap.size ≤ Q by have := hQ.out; have := hQe.out; omega)).apart8 (B := w.heap.size) (by intro b hb; have := OL.out b hb; have := hQ.out; have := hQe.out; omega) 0 [.int .i64 0, .int .i64 d1, .int .i64 A, .int .i64 C, .int .i64 N, .slice c5 l d5]
          have KA : (World.setCells w5 w.heap.size 0 [.int .i64 0, .int .i64 d1, .int .i64 A, .int .i64 C, .int .i64 N, .slice c5 l d5]).cell? ⟨b2, o2 + 1, none⟩ = some (.int .u8 d1) := (cells_far (by omega) 0 [.int .i64 0, .int .i64 d1, .int .i64 A, .int .i64 C, .int .i64 N, .slice c5 l d5]).trans (K.out _ bq5)
          obtain ⟨w6, hw6⟩ : ∃ w6, World.setCells w5 w.heap.size 0 [.int .i64 0, .int .i64 d1, .int .i64 A, .int .i64 C, .int .i64 N, .slice c5 l d5] = w6 := ⟨_, rfl⟩
          rw [hw6] at VF BR HO KA
          replace hw6 := Hid.mk hw6
          replace VF := Hid.mk VF
          replace BR := Hid.mk BR
          replace HO := Hid.mk HO
          replace KA := Hid.mk KA
          clear O5 b5 bq5 VD OL
          refine wpAnyH_ready (rs := [15]) (by kernel_rfl) (by simp) ?_
          refine AllReadyH.cons (o := _) rfl (fun K0 hK0 => ?_) AllReadyH.nil
          rw [if_pos (by rfl)]
          refine wp_stroke w6 26 _ _ rfl w.heap.size 0 #[.int .i64 0, .int .i64 d1, .int .i64 A, .int .i64 C, .int .i64 N, .slice c5 l d5] rfl rfl HT.out (by kernel_rfl) (by kernel_rfl) hw6.out ?_
          refine hK0.out _ _ KA.out (fun hHeld => ?_)
          clear hK0 K0 hHeld KA HT
          refine wpAnyH_done (by kernel_rfl) ?_ _
          go_wp2
          refine bodyPost_ret (v := .agg #[.int .i64 0, .int .i64 d1, .int .i64 A, .int .i64 C, .int .i64 N, .slice c5 l d5]) (results_row Try.results12 _ _ (w.heap.size) [.int .i64 0, .int .i64 d1, .int .i64 A, .int .i64 C, .int .i64 N, .slice c5 l d5] _ rfl VF.out Try.underlying26 rfl (by kernel_rfl)) rfl ⟨c5, d5, by first | rfl | rw [hl.out], HO.out, BR.out⟩
      · skip
        go_simp
        have bq101 := belowA wd (.cells #[] 5)
        have OE : Own .u8 5 (wd.alloc (.cells #[] 5)) Q (some ⟨wd.heap.size, 0, none⟩) 0 [] := (Own.lit wd 5 [] (Nat.zero_le _)).mono (by rw [← hQe.out]; exact (bd).size)
        refine hK0.out _ _ (K.out _ (thenB bd bq101)) (fun hHeld => ?_)
        clear hK0 K0
        try simp only [Act.put, List.getElem_toArray, List.getElem_cons_zero, List.getElem_cons_succ, List.setIfInBounds_toArray, List.set_cons_zero, List.set_cons_succ]
        generalize wd.alloc (.cells #[] 5) = wm101 at *
        skip
        refine wpAnyH_ready (rs := [5]) (by kernel_rfl) (by simp) ?_
        refine AllReadyH.cons (o := _) rfl (fun K0 hK0 => ?_) AllReadyH.nil
        go_simp
        go_at_call 48
        refine (CT.out 2 4 (by decide) (by omega) _ (HRq.out.kept (thenB bd bq101))).mono ?_
        rintro e wc102 ⟨rfl, bc102⟩
        rw [ga.out]
        replace OE := OE.kept bc102
        refine hK0.out _ _ (K.out _ (thenB (thenB bd bq101) bc102)) (fun hHeld => ?_)
        clear hK0 K0
        try simp only [Act.put, List.getElem_toArray, List.getElem_cons_zero, List.getElem_cons_succ, List.setIfInBounds_toArray, List.set_cons_zero, List.set_cons_succ]
        refine wpAnyH_ready (rs := [7]) (by kernel_rfl) (by simp) ?_
        refine AllReadyH.cons (o := _) rfl (fun K0 hK0 => ?_) AllReadyH.nil
        go_simp
        go_at_call 48
        refine (CT.out 6 4 (by decide) (by omega) _ (HRq.out.kept (thenB (thenB bd bq101) bc102))).mono ?_
        rintro e wc103 ⟨rfl, bc103⟩
        rw [gb.out]
        replace OE := OE.kept bc103
        refine hK0.out _ _ (K.out _ (thenB (thenB (thenB bd bq101) bc102) bc103)) (fun hHeld => ?_)
        clear hK0 K0
        try simp only [Act.put, List.getElem_toArray, List.getElem_cons_zero, List.getElem_cons_succ, List.setIfInBounds_toArray, List.set_cons_zero, List.set_cons_succ]
        refine wpAnyH_ready (rs := [9]) (by kernel_rfl) (by simp) ?_
        refine AllReadyH.cons (o := _) rfl (fun K0 hK0 => ?_) AllReadyH.nil
        go_simp
        go_at_call 48
        refine (CT.out 10 4 (by decide) (by omega) _ (HRq.out.kept (thenB (thenB (thenB bd bq101) bc102) bc103))).mono ?_
        rintro e wc104 ⟨rfl, bc104⟩
        rw [gn.out]
        replace OE := OE.kept bc104
        refine hK0.out _ _ (K.out _ (thenB (thenB (thenB (thenB bd bq101) bc102) bc103) bc104)) (fun hHeld => ?_)
        clear hK0 K0
        try simp only [Act.put, List.getElem_toArray, List.getElem_cons_zero, List.getElem_cons_succ, List.setIfInBounds_toArray, List.set_cons_zero, List.set_cons_succ]
        refine wpAnyH_ready (rs := [13]) (by kernel_rfl) (by simp) ?_
        refine AllReadyH.cons (o := _) rfl (fun K0 hK0 => ?_) AllReadyH.nil
        have hbw := OE.lt _ rfl
        have hsz := ((thenB (thenB (thenB (thenB bd bq101) bc102) bc103) bc104)).size
        have accB := Hid.mk ((thenB (thenB (thenB (thenB bd bq101) bc102) bc103) bc104))
        refine step_put _ rfl _ _ 22 rfl Q 5 i0 Try.underlying22 hi g0 g1 g2 _ 0 0 [] rfl OE rfl (some ⟨b2, o2 + 16, none⟩) l (ca - 16) (ds.drop 16) rfl (RS.out.kept accB.out) hl.out (fun h => by cases h) l (ds.drop 16) (by omega) (by simp) (by omega) (by have := hQe.out; omega) ?_
        intro c5 d5 w5 O5 b5
        have bq5 : Below w21.heap.size w21 w5 := (accB.out).trans (b5.mono (by have := hQe.out; omega))
        refine hK0.out _ _ (K.out _ bq5) (fun hHeld => ?_)
        clear hK0 K0
        try simp only [Act.put, List.getElem_toArray, List.getElem_cons_zero, List.getElem_cons_succ, List.setIfInBounds_toArray, List.set_cons_zero, List.set_cons_succ]
        refine wpAnyH_take (i := 14) (oi := _) (v := ?vwrs13) rfl (by kernel_rfl) (by kernel_rfl) (by kernel_rfl) (fun _ _ _ h => h) (Or.inl ⟨by kernel_rfl, ?hywrs13⟩) hHeld ?restwrs13
        case hywrs13 => (intro w hSw; (try dsimp only at hSw); go_simp; first | done | with_reducible rfl)
        try simp only [Act.put, List.getElem_toArray, List.getElem_cons_zero, List.getElem_cons_succ, List.setIfInBounds_toArray, List.set_cons_zero, List.set_cons_succ]
        have OL := Hid.mk (fun b hb => (O5.lt b hb).1)
        have VD := VR.out.kept bq5
        have HT := Hid.mk VD.there
        have VF := VD.filled [.int .i64 0, .int .i64 d1, .int .i64 A, .int .i64 C, .int .i64 N, .slice c5 l d5] rfl
        have BR := belowCells (thenB B.out bq5) (Nat.le_refl w.heap.size) 0 [.int .i64 0, .int .i64 d1, .int .i64 A, .int .i64 C, .int .i64 N, .slice c5 l d5]
        have HO := (O5.mono (show w.heap.size ≤ Q by have := hQ.out; have := hQe.out; omega)).apart8 (B := w.heap.size) (by intro b hb; have := OL.out b hb; have := hQ.out; have := hQe.out; omega) 0 [.int .i64 0, .int .i64 d1, .int .i64 A, .int .i64 C, .int .i64 N, .slice c5 l d5]
        have KA : (World.setCells w5 w.heap.size 0 [.int .i64 0, .int .i64 d1, .int .i64 A, .int .i64 C, .int .i64 N, .slice c5 l d5]).cell? ⟨b2, o2 + 1, none⟩ = some (.int .u8 d1) := (cells_far (by omega) 0 [.int .i64 0, .int .i64 d1, .int .i64 A, .int .i64 C, .int .i64 N, .slice c5 l d5]).trans (K.out _ bq5)
        obtain ⟨w6, hw6⟩ : ∃ w6, World.setCells w5 w.heap.size 0 [.int .i64 0, .int .i64 d1, .int .i64 A, .int .i64 C, .int .i64 N, .slice c5 l d5] = w6 := ⟨_, rfl⟩
        rw [hw6] at VF BR HO KA
        replace hw6 := Hid.mk hw6
        replace VF := Hid.mk VF
        replace BR := Hid.mk BR
        replace HO := Hid.mk HO
        replace KA := Hid.mk KA
        clear O5 b5 bq5 VD OL
        refine wpAnyH_ready (rs := [15]) (by kernel_rfl) (by simp) ?_
        refine AllReadyH.cons (o := _) rfl (fun K0 hK0 => ?_) AllReadyH.nil
        rw [if_pos (by rfl)]
        refine wp_stroke w6 26 _ _ rfl w.heap.size 0 #[.int .i64 0, .int .i64 d1, .int .i64 A, .int .i64 C, .int .i64 N, .slice c5 l d5] rfl rfl HT.out (by kernel_rfl) (by kernel_rfl) hw6.out ?_
        refine hK0.out _ _ KA.out (fun hHeld => ?_)
        clear hK0 K0 hHeld KA HT
        refine wpAnyH_done (by kernel_rfl) ?_ _
        go_wp2
        refine bodyPost_ret (v := .agg #[.int .i64 0, .int .i64 d1, .int .i64 A, .int .i64 C, .int .i64 N, .slice c5 l d5]) (results_row Try.results12 _ _ (w.heap.size) [.int .i64 0, .int .i64 d1, .int .i64 A, .int .i64 C, .int .i64 N, .slice c5 l d5] _ rfl VF.out Try.underlying26 rfl (by kernel_rfl)) rfl ⟨c5, d5, by first | rfl | rw [hl.out], HO.out, BR.out⟩
    · obtain rfl : ca = 16 := by omega
      obtain rfl : n = 16 := by omega
      have hl0 : l = 0 := by omega
      subst hl0
      have RS := Hid.mk (show Rd .u8 w21 (some ⟨b2, o2, none⟩) (ds.drop 16) from .inl (List.eq_nil_of_length_eq_zero hl.out))
      have K : ∀ w' : World, Below w21.heap.size w21 w' → w'.cell? ⟨b2, o2 + 1, none⟩ = some (.int .u8 d1) := fun w' h => ((bcell h).1 _ _ (Nat.lt_of_lt_of_le hlt B.size)).trans c2
      have K := Hid.mk K
      have HRq := Hid.mk (HR.out.kept B)
      have hQ := Hid.mk VR.1
      have hzB := Hid.mk B.size
      replace VR := Hid.mk VR
      replace B := Hid.mk B
      clear c2 c1 Bo
      go_upto_region 4 with fail
      refine wp_region_held_drew (S := (fun w' => w'.cell? ⟨b2, o2 + 1, none⟩ = some (.int .u8 d1))) (by kernel_rfl) (K.out _ (Below.refl _ _).drew) (fun hHeld => ?_)
      have bd : Below w21.heap.size w21 w21.drew := (Below.refl _ _).drew
      generalize w21.drew = wd at *
      refine wpAnyH_take (i := 0) (oi := _) (v := ?vwrt1) rfl (by kernel_rfl) (by kernel_rfl) (by kernel_rfl) (fun _ _ _ h => h) (Or.inl ⟨by kernel_rfl, ?hywrt1⟩) hHeld ?restwrt1
      case hywrt1 => (intro w hSw; (try dsimp only at hSw); go_simp; first | done | with_reducible rfl)
      try simp only [Act.put, List.getElem_toArray, List.getElem_cons_zero, List.setIfInBounds_toArray, List.set_cons_zero, List.set_cons_succ]
      refine wpAnyH_take (i := 1) (oi := _) (v := ?vwrt2) rfl (by kernel_rfl) (by kernel_rfl) (by kernel_rfl) (fun _ _ _ h => h) (Or.inl ⟨by kernel_rfl, ?hywrt2⟩) hHeld ?restwrt2
      case hywrt2 => (intro w hSw; (try dsimp only at hSw); go_simp; first | done | with_reducible rfl)
      try simp only [Act.put, List.getElem_toArray, List.getElem_cons_zero, List.getElem_cons_succ, List.setIfInBounds_toArray, List.set_cons_zero, List.set_cons_succ]
      refine wpAnyH_take (i := 2) (oi := _) (v := ?vwrt3) rfl (by kernel_rfl) (by kernel_rfl) (by kernel_rfl) (fun _ _ _ h => h) (Or.inl ⟨by kernel_rfl, ?hywrt3⟩) hHeld ?restwrt3
      case hywrt3 => (intro w hSw; (try dsimp only at hSw); go_simp; first | done | with_reducible rfl)
      try simp only [Act.put, List.getElem_toArray, List.getElem_cons_zero, List.getElem_cons_succ, List.setIfInBounds_toArray, List.set_cons_zero, List.set_cons_succ]
      refine wpAnyH_take (i := 3) (oi := _) (v := ?vwrt4) rfl (by kernel_rfl) (by kernel_rfl) (by kernel_rfl) (fun _ _ _ h => h) (Or.inl ⟨by kernel_rfl, ?hywrt4⟩) hHeld ?restwrt4
      case hywrt4 => (intro w hSw; (try dsimp only at hSw); go_simp; first | done | with_reducible rfl)
      try simp only [Act.put, List.getElem_toArray, List.getElem_cons_zero, List.getElem_cons_succ, List.setIfInBounds_toArray, List.set_cons_zero, List.set_cons_succ]
      refine wpAnyH_take (i := 4) (oi := _) (v := ?vwrt5) rfl (by kernel_rfl) (by kernel_rfl) (by kernel_rfl) (fun _ _ _ h => h) (Or.inl ⟨by kernel_rfl, ?hywrt5⟩) hHeld ?restwrt5
      case hywrt5 => (intro w hSw; (try dsimp only at hSw); go_simp; first | done | with_reducible rfl)
      try simp only [Act.put, List.getElem_toArray, List.getElem_cons_zero, List.getElem_cons_succ, List.setIfInBounds_toArray, List.set_cons_zero, List.set_cons_succ]
      refine wpAnyH_take (i := 6) (oi := _) (v := ?vwrt6) rfl (by kernel_rfl) (by kernel_rfl) (by kernel_rfl) (fun _ _ _ h => h) (Or.inl ⟨by kernel_rfl, ?hywrt6⟩) hHeld ?restwrt6
      case hywrt6 => (intro w hSw; (try dsimp only at hSw); go_simp; first | done | with_reducible rfl)
      try simp only [Act.put, List.getElem_toArray, List.getElem_cons_zero, List.getElem_cons_succ, List.setIfInBounds_toArray, List.set_cons_zero, List.set_cons_succ]
      refine wpAnyH_take (i := 8) (oi := _) (v := ?vwrt7) rfl (by kernel_rfl) (by kernel_rfl) (by kernel_rfl) (fun _ _ _ h => h) (Or.inl ⟨by kernel_rfl, ?hywrt7⟩) hHeld ?restwrt7
      case hywrt7 => (intro w hSw; (try dsimp only at hSw); go_simp; first | done | with_reducible rfl)
      try simp only [Act.put, List.getElem_toArray, List.getElem_cons_zero, List.getElem_cons_succ, List.setIfInBounds_toArray, List.set_cons_zero, List.set_cons_succ]
      refine wpAnyH_take (i := 11) (oi := _) (v := ?vwrt8) rfl (by kernel_rfl) (by kernel_rfl) (by kernel_rfl) (fun _ _ _ h => h) (Or.inl ⟨by kernel_rfl, ?hywrt8⟩) hHeld ?restwrt8
      case hywrt8 => (intro w hSw; (try dsimp only at hSw); go_simp; first | done | with_reducible rfl)
      try simp only [Act.put, List.getElem_toArray, List.getElem_cons_zero, List.getElem_cons_succ, List.setIfInBounds_toArray, List.set_cons_zero, List.set_cons_succ]
      refine wpAnyH_take (i := 12) (oi := _) (v := ?vwrt9) rfl (by kernel_rfl) (by kernel_rfl) (by kernel_rfl) (fun _ _ _ h => h) (Or.inl ⟨by kernel_rfl, ?hywrt9⟩) hHeld ?restwrt9
      case hywrt9 => (intro w hSw; (try dsimp only at hSw); go_simp; first | done | with_reducible rfl)
      try simp only [Act.put, List.getElem_toArray, List.getElem_cons_zero, List.getElem_cons_succ, List.setIfInBounds_toArray, List.set_cons_zero, List.set_cons_succ]
      refine wpAnyH_ready (rs := [5, 10]) (by kernel_rfl) (by simp) ?_
      refine AllReadyH.cons (o := _) rfl (fun K0 hK0 => ?_) (AllReadyH.cons (o := _) rfl (fun K0 hK0 => ?_) AllReadyH.nil)
      · skip
        go_simp
        go_at_call 48
        refine (CT.out 2 4 (by decide) (by omega) _ (HRq.out.kept bd)).mono ?_
        rintro e wc101 ⟨rfl, bc101⟩
        rw [ga.out]
        refine hK0.out _ _ (K.out _ (thenB bd bc101)) (fun hHeld => ?_)
        clear hK0 K0
        try simp only [Act.put, List.getElem_toArray, List.getElem_cons_zero, List.getElem_cons_succ, List.setIfInBounds_toArray, List.set_cons_zero, List.set_cons_succ]
        refine wpAnyH_ready (rs := [7, 10]) (by kernel_rfl) (by simp) ?_
        refine AllReadyH.cons (o := _) rfl (fun K0 hK0 => ?_) (AllReadyH.cons (o := _) rfl (fun K0 hK0 => ?_) AllReadyH.nil)
        · skip
          go_simp
          go_at_call 48
          refine (CT.out 6 4 (by decide) (by omega) _ (HRq.out.kept (thenB bd bc101))).mono ?_
          rintro e wc102 ⟨rfl, bc102⟩
          rw [gb.out]
          refine hK0.out _ _ (K.out _ (thenB (thenB bd bc101) bc102)) (fun hHeld => ?_)
          clear hK0 K0
          try simp only [Act.put, List.getElem_toArray, List.getElem_cons_zero, List.getElem_cons_succ, List.setIfInBounds_toArray, List.set_cons_zero, List.set_cons_succ]
          refine wpAnyH_ready (rs := [9, 10]) (by kernel_rfl) (by simp) ?_
          refine AllReadyH.cons (o := _) rfl (fun K0 hK0 => ?_) (AllReadyH.cons (o := _) rfl (fun K0 hK0 => ?_) AllReadyH.nil)
          · skip
            go_simp
            go_at_call 48
            refine (CT.out 10 4 (by decide) (by omega) _ (HRq.out.kept (thenB (thenB bd bc101) bc102))).mono ?_
            rintro e wc103 ⟨rfl, bc103⟩
            rw [gn.out]
            refine hK0.out _ _ (K.out _ (thenB (thenB (thenB bd bc101) bc102) bc103)) (fun hHeld => ?_)
            clear hK0 K0
            try simp only [Act.put, List.getElem_toArray, List.getElem_cons_zero, List.getElem_cons_succ, List.setIfInBounds_toArray, List.set_cons_zero, List.set_cons_succ]
            refine wpAnyH_ready (rs := [10]) (by kernel_rfl) (by simp) ?_
            refine AllReadyH.cons (o := _) rfl (fun K0 hK0 => ?_) AllReadyH.nil
            go_simp
            have bq104 := belowA wc103 (.cells #[] 5)
            have OE : Own .u8 5 (wc103.alloc (.cells #[] 5)) Q (some ⟨wc103.heap.size, 0, none⟩) 0 [] := (Own.lit wc103 5 [] (Nat.zero_le _)).mono (by rw [← hQe.out]; exact ((thenB (thenB (thenB bd bc101) bc102) bc103)).size)
            refine hK0.out _ _ (K.out _ (thenB (thenB (thenB (thenB bd bc101) bc102) bc103) bq104)) (fun hHeld => ?_)
            clear hK0 K0
            try simp only [Act.put, List.getElem_toArray, List.getElem_cons_zero, List.getElem_cons_succ, List.setIfInBounds_toArray, List.set_cons_zero, List.set_cons_succ]
            generalize wc103.alloc (.cells #[] 5) = wm104 at *
            skip
            refine wpAnyH_ready (rs := [13]) (by kernel_rfl) (by simp) ?_
            refine AllReadyH.cons (o := _) rfl (fun K0 hK0 => ?_) AllReadyH.nil
            have hbw := OE.lt _ rfl
            have hsz := ((thenB (thenB (thenB (thenB bd bc101) bc102) bc103) bq104)).size
            have accB := Hid.mk ((thenB (thenB (thenB (thenB bd bc101) bc102) bc103) bq104))
            refine step_put _ rfl _ _ 22 rfl Q 5 i0 Try.underlying22 hi g0 g1 g2 _ 0 0 [] rfl OE rfl (some ⟨b2, o2, none⟩) 0 0 (ds.drop 16) rfl (RS.out.kept accB.out) hl.out (fun h => by cases h) 0 (ds.drop 16) (by omega) (by simp) (by omega) (by have := hQe.out; omega) ?_
            intro c5 d5 w5 O5 b5
            have bq5 : Below w21.heap.size w21 w5 := (accB.out).trans (b5.mono (by have := hQe.out; omega))
            refine hK0.out _ _ (K.out _ bq5) (fun hHeld => ?_)
            clear hK0 K0
            try simp only [Act.put, List.getElem_toArray, List.getElem_cons_zero, List.getElem_cons_succ, List.setIfInBounds_toArray, List.set_cons_zero, List.set_cons_succ]
            refine wpAnyH_take (i := 14) (oi := _) (v := ?vwrt10) rfl (by kernel_rfl) (by kernel_rfl) (by kernel_rfl) (fun _ _ _ h => h) (Or.inl ⟨by kernel_rfl, ?hywrt10⟩) hHeld ?restwrt10
            case hywrt10 => (intro w hSw; (try dsimp only at hSw); go_simp; first | done | with_reducible rfl)
            try simp only [Act.put, List.getElem_toArray, List.getElem_cons_zero, List.getElem_cons_succ, List.setIfInBounds_toArray, List.set_cons_zero, List.set_cons_succ]
            have OL := Hid.mk (fun b hb => (O5.lt b hb).1)
            have VD := VR.out.kept bq5
            have HT := Hid.mk VD.there
            have VF := VD.filled [.int .i64 0, .int .i64 d1, .int .i64 A, .int .i64 C, .int .i64 N, .slice c5 0 d5] rfl
            have BR := belowCells (thenB B.out bq5) (Nat.le_refl w.heap.size) 0 [.int .i64 0, .int .i64 d1, .int .i64 A, .int .i64 C, .int .i64 N, .slice c5 0 d5]
            have HO := (O5.mono (show w.heap.size ≤ Q by have := hQ.out; have := hQe.out; omega)).apart8 (B := w.heap.size) (by intro b hb; have := OL.out b hb; have := hQ.out; have := hQe.out; omega) 0 [.int .i64 0, .int .i64 d1, .int .i64 A, .int .i64 C, .int .i64 N, .slice c5 0 d5]
            have KA : (World.setCells w5 w.heap.size 0 [.int .i64 0, .int .i64 d1, .int .i64 A, .int .i64 C, .int .i64 N, .slice c5 0 d5]).cell? ⟨b2, o2 + 1, none⟩ = some (.int .u8 d1) := (cells_far (by omega) 0 [.int .i64 0, .int .i64 d1, .int .i64 A, .int .i64 C, .int .i64 N, .slice c5 0 d5]).trans (K.out _ bq5)
            obtain ⟨w6, hw6⟩ : ∃ w6, World.setCells w5 w.heap.size 0 [.int .i64 0, .int .i64 d1, .int .i64 A, .int .i64 C, .int .i64 N, .slice c5 0 d5] = w6 := ⟨_, rfl⟩
            rw [hw6] at VF BR HO KA
            replace hw6 := Hid.mk hw6
            replace VF := Hid.mk VF
            replace BR := Hid.mk BR
            replace HO := Hid.mk HO
            replace KA := Hid.mk KA
            clear O5 b5 bq5 VD OL
            refine wpAnyH_ready (rs := [15]) (by kernel_rfl) (by simp) ?_
            refine AllReadyH.cons (o := _) rfl (fun K0 hK0 => ?_) AllReadyH.nil
            rw [if_pos (by rfl)]
            refine wp_stroke w6 26 _ _ rfl w.heap.size 0 #[.int .i64 0, .int .i64 d1, .int .i64 A, .int .i64 C, .int .i64 N, .slice c5 0 d5] rfl rfl HT.out (by kernel_rfl) (by kernel_rfl) hw6.out ?_
            refine hK0.out _ _ KA.out (fun hHeld => ?_)
            clear hK0 K0 hHeld KA HT
            refine wpAnyH_done (by kernel_rfl) ?_ _
            go_wp2
            refine bodyPost_ret (v := .agg #[.int .i64 0, .int .i64 d1, .int .i64 A, .int .i64 C, .int .i64 N, .slice c5 0 d5]) (results_row Try.results12 _ _ (w.heap.size) [.int .i64 0, .int .i64 d1, .int .i64 A, .int .i64 C, .int .i64 N, .slice c5 0 d5] _ rfl VF.out Try.underlying26 rfl (by kernel_rfl)) rfl ⟨c5, d5, by first | rfl | rw [hl.out], HO.out, BR.out⟩
          · skip
            go_simp
            have bq103 := belowA wc102 (.cells #[] 5)
            have OE : Own .u8 5 (wc102.alloc (.cells #[] 5)) Q (some ⟨wc102.heap.size, 0, none⟩) 0 [] := (Own.lit wc102 5 [] (Nat.zero_le _)).mono (by rw [← hQe.out]; exact ((thenB (thenB bd bc101) bc102)).size)
            refine hK0.out _ _ (K.out _ (thenB (thenB (thenB bd bc101) bc102) bq103)) (fun hHeld => ?_)
            clear hK0 K0
            try simp only [Act.put, List.getElem_toArray, List.getElem_cons_zero, List.getElem_cons_succ, List.setIfInBounds_toArray, List.set_cons_zero, List.set_cons_succ]
            generalize wc102.alloc (.cells #[] 5) = wm103 at *
            skip
            refine wpAnyH_ready (rs := [9]) (by kernel_rfl) (by simp) ?_
            refine AllReadyH.cons (o := _) rfl (fun K0 hK0 => ?_) AllReadyH.nil
            go_simp
            go_at_call 48
            refine (CT.out 10 4 (by decide) (by omega) _ (HRq.out.kept (thenB (thenB (thenB bd bc101) bc102) bq103))).mono ?_
            rintro e wc104 ⟨rfl, bc104⟩
            rw [gn.out]
            replace OE := OE.kept bc104
            refine hK0.out _ _ (K.out _ (thenB (thenB (thenB (thenB bd bc101) bc102) bq103) bc104)) (fun hHeld => ?_)
            clear hK0 K0
            try simp only [Act.put, List.getElem_toArray, List.getElem_cons_zero, List.getElem_cons_succ, List.setIfInBounds_toArray, List.set_cons_zero, List.set_cons_succ]
            refine wpAnyH_ready (rs := [13]) (by kernel_rfl) (by simp) ?_
            refine AllReadyH.cons (o := _) rfl (fun K0 hK0 => ?_) AllReadyH.nil
            have hbw := OE.lt _ rfl
            have hsz := ((thenB (thenB (thenB (thenB bd bc101) bc102) bq103) bc104)).size
            have accB := Hid.mk ((thenB (thenB (thenB (thenB bd bc101) bc102) bq103) bc104))
            refine step_put _ rfl _ _ 22 rfl Q 5 i0 Try.underlying22 hi g0 g1 g2 _ 0 0 [] rfl OE rfl (some ⟨b2, o2, none⟩) 0 0 (ds.drop 16) rfl (RS.out.kept accB.out) hl.out (fun h => by cases h) 0 (ds.drop 16) (by omega) (by simp) (by omega) (by have := hQe.out; omega) ?_
            intro c5 d5 w5 O5 b5
            have bq5 : Below w21.heap.size w21 w5 := (accB.out).trans (b5.mono (by have := hQe.out; omega))
            refine hK0.out _ _ (K.out _ bq5) (fun hHeld => ?_)
            clear hK0 K0
            try simp only [Act.put, List.getElem_toArray, List.getElem_cons_zero, List.getElem_cons_succ, List.setIfInBounds_toArray, List.set_cons_zero, List.set_cons_succ]
            refine wpAnyH_take (i := 14) (oi := _) (v := ?vwrt11) rfl (by kernel_rfl) (by kernel_rfl) (by kernel_rfl) (fun _ _ _ h => h) (Or.inl ⟨by kernel_rfl, ?hywrt11⟩) hHeld ?restwrt11
            case hywrt11 => (intro w hSw; (try dsimp only at hSw); go_simp; first | done | with_reducible rfl)
            try simp only [Act.put, List.getElem_toArray, List.getElem_cons_zero, List.getElem_cons_succ, List.setIfInBounds_toArray, List.set_cons_zero, List.set_cons_succ]
            have OL := Hid.mk (fun b hb => (O5.lt b hb).1)
            have VD := VR.out.kept bq5
            have HT := Hid.mk VD.there
            have VF := VD.filled [.int .i64 0, .int .i64 d1, .int .i64 A, .int .i64 C, .int .i64 N, .slice c5 0 d5] rfl
            have BR := belowCells (thenB B.out bq5) (Nat.le_refl w.heap.size) 0 [.int .i64 0, .int .i64 d1, .int .i64 A, .int .i64 C, .int .i64 N, .slice c5 0 d5]
            have HO := (O5.mono (show w.heap.size ≤ Q by have := hQ.out; have := hQe.out; omega)).apart8 (B := w.heap.size) (by intro b hb; have := OL.out b hb; have := hQ.out; have := hQe.out; omega) 0 [.int .i64 0, .int .i64 d1, .int .i64 A, .int .i64 C, .int .i64 N, .slice c5 0 d5]
            have KA : (World.setCells w5 w.heap.size 0 [.int .i64 0, .int .i64 d1, .int .i64 A, .int .i64 C, .int .i64 N, .slice c5 0 d5]).cell? ⟨b2, o2 + 1, none⟩ = some (.int .u8 d1) := (cells_far (by omega) 0 [.int .i64 0, .int .i64 d1, .int .i64 A, .int .i64 C, .int .i64 N, .slice c5 0 d5]).trans (K.out _ bq5)
            obtain ⟨w6, hw6⟩ : ∃ w6, World.setCells w5 w.heap.size 0 [.int .i64 0, .int .i64 d1, .int .i64 A, .int .i64 C, .int .i64 N, .slice c5 0 d5] = w6 := ⟨_, rfl⟩
            rw [hw6] at VF BR HO KA
            replace hw6 := Hid.mk hw6
            replace VF := Hid.mk VF
            replace BR := Hid.mk BR
            replace HO := Hid.mk HO
            replace KA := Hid.mk KA
            clear O5 b5 bq5 VD OL
            refine wpAnyH_ready (rs := [15]) (by kernel_rfl) (by simp) ?_
            refine AllReadyH.cons (o := _) rfl (fun K0 hK0 => ?_) AllReadyH.nil
            rw [if_pos (by rfl)]
            refine wp_stroke w6 26 _ _ rfl w.heap.size 0 #[.int .i64 0, .int .i64 d1, .int .i64 A, .int .i64 C, .int .i64 N, .slice c5 0 d5] rfl rfl HT.out (by kernel_rfl) (by kernel_rfl) hw6.out ?_
            refine hK0.out _ _ KA.out (fun hHeld => ?_)
            clear hK0 K0 hHeld KA HT
            refine wpAnyH_done (by kernel_rfl) ?_ _
            go_wp2
            refine bodyPost_ret (v := .agg #[.int .i64 0, .int .i64 d1, .int .i64 A, .int .i64 C, .int .i64 N, .slice c5 0 d5]) (results_row Try.results12 _ _ (w.heap.size) [.int .i64 0, .int .i64 d1, .int .i64 A, .int .i64 C, .int .i64 N, .slice c5 0 d5] _ rfl VF.out Try.underlying26 rfl (by kernel_rfl)) rfl ⟨c5, d5, by first | rfl | rw [hl.out], HO.out, BR.out⟩
        · skip
          go_simp
          have bq102 := belowA wc101 (.cells #[] 5)
          have OE : Own .u8 5 (wc101.alloc (.cells #[] 5)) Q (some ⟨wc101.heap.size, 0, none⟩) 0 [] := (Own.lit wc101 5 [] (Nat.zero_le _)).mono (by rw [← hQe.out]; exact ((thenB bd bc101)).size)
          refine hK0.out _ _ (K.out _ (thenB (thenB bd bc101) bq102)) (fun hHeld => ?_)
          clear hK0 K0
          try simp only [Act.put, List.getElem_toArray, List.getElem_cons_zero, List.getElem_cons_succ, List.setIfInBounds_toArray, List.set_cons_zero, List.set_cons_succ]
          generalize wc101.alloc (.cells #[] 5) = wm102 at *
          skip
          refine wpAnyH_ready (rs := [7]) (by kernel_rfl) (by simp) ?_
          refine AllReadyH.cons (o := _) rfl (fun K0 hK0 => ?_) AllReadyH.nil
          go_simp
          go_at_call 48
          refine (CT.out 6 4 (by decide) (by omega) _ (HRq.out.kept (thenB (thenB bd bc101) bq102))).mono ?_
          rintro e wc103 ⟨rfl, bc103⟩
          rw [gb.out]
          replace OE := OE.kept bc103
          refine hK0.out _ _ (K.out _ (thenB (thenB (thenB bd bc101) bq102) bc103)) (fun hHeld => ?_)
          clear hK0 K0
          try simp only [Act.put, List.getElem_toArray, List.getElem_cons_zero, List.getElem_cons_succ, List.setIfInBounds_toArray, List.set_cons_zero, List.set_cons_succ]
          refine wpAnyH_ready (rs := [9]) (by kernel_rfl) (by simp) ?_
          refine AllReadyH.cons (o := _) rfl (fun K0 hK0 => ?_) AllReadyH.nil
          go_simp
          go_at_call 48
          refine (CT.out 10 4 (by decide) (by omega) _ (HRq.out.kept (thenB (thenB (thenB bd bc101) bq102) bc103))).mono ?_
          rintro e wc104 ⟨rfl, bc104⟩
          rw [gn.out]
          replace OE := OE.kept bc104
          refine hK0.out _ _ (K.out _ (thenB (thenB (thenB (thenB bd bc101) bq102) bc103) bc104)) (fun hHeld => ?_)
          clear hK0 K0
          try simp only [Act.put, List.getElem_toArray, List.getElem_cons_zero, List.getElem_cons_succ, List.setIfInBounds_toArray, List.set_cons_zero, List.set_cons_succ]
          refine wpAnyH_ready (rs := [13]) (by kernel_rfl) (by simp) ?_
          refine AllReadyH.cons (o := _) rfl (fun K0 hK0 => ?_) AllReadyH.nil
          have hbw := OE.lt _ rfl
          have hsz := ((thenB (thenB (thenB (thenB bd bc101) bq102) bc103) bc104)).size
          have accB := Hid.mk ((thenB (thenB (thenB (thenB bd bc101) bq102) bc103) bc104))
          refine step_put _ rfl _ _ 22 rfl Q 5 i0 Try.underlying22 hi g0 g1 g2 _ 0 0 [] rfl OE rfl (some ⟨b2, o2, none⟩) 0 0 (ds.drop 16) rfl (RS.out.kept accB.out) hl.out (fun h => by cases h) 0 (ds.drop 16) (by omega) (by simp) (by omega) (by have := hQe.out; omega) ?_
          intro c5 d5 w5 O5 b5
          have bq5 : Below w21.heap.size w21 w5 := (accB.out).trans (b5.mono (by have := hQe.out; omega))
          refine hK0.out _ _ (K.out _ bq5) (fun hHeld => ?_)
          clear hK0 K0
          try simp only [Act.put, List.getElem_toArray, List.getElem_cons_zero, List.getElem_cons_succ, List.setIfInBounds_toArray, List.set_cons_zero, List.set_cons_succ]
          refine wpAnyH_take (i := 14) (oi := _) (v := ?vwrt12) rfl (by kernel_rfl) (by kernel_rfl) (by kernel_rfl) (fun _ _ _ h => h) (Or.inl ⟨by kernel_rfl, ?hywrt12⟩) hHeld ?restwrt12
          case hywrt12 => (intro w hSw; (try dsimp only at hSw); go_simp; first | done | with_reducible rfl)
          try simp only [Act.put, List.getElem_toArray, List.getElem_cons_zero, List.getElem_cons_succ, List.setIfInBounds_toArray, List.set_cons_zero, List.set_cons_succ]
          have OL := Hid.mk (fun b hb => (O5.lt b hb).1)
          have VD := VR.out.kept bq5
          have HT := Hid.mk VD.there
          have VF := VD.filled [.int .i64 0, .int .i64 d1, .int .i64 A, .int .i64 C, .int .i64 N, .slice c5 0 d5] rfl
          have BR := belowCells (thenB B.out bq5) (Nat.le_refl w.heap.size) 0 [.int .i64 0, .int .i64 d1, .int .i64 A, .int .i64 C, .int .i64 N, .slice c5 0 d5]
          have HO := (O5.mono (show w.heap.size ≤ Q by have := hQ.out; have := hQe.out; omega)).apart8 (B := w.heap.size) (by intro b hb; have := OL.out b hb; have := hQ.out; have := hQe.out; omega) 0 [.int .i64 0, .int .i64 d1, .int .i64 A, .int .i64 C, .int .i64 N, .slice c5 0 d5]
          have KA : (World.setCells w5 w.heap.size 0 [.int .i64 0, .int .i64 d1, .int .i64 A, .int .i64 C, .int .i64 N, .slice c5 0 d5]).cell? ⟨b2, o2 + 1, none⟩ = some (.int .u8 d1) := (cells_far (by omega) 0 [.int .i64 0, .int .i64 d1, .int .i64 A, .int .i64 C, .int .i64 N, .slice c5 0 d5]).trans (K.out _ bq5)
          obtain ⟨w6, hw6⟩ : ∃ w6, World.setCells w5 w.heap.size 0 [.int .i64 0, .int .i64 d1, .int .i64 A, .int .i64 C, .int .i64 N, .slice c5 0 d5] = w6 := ⟨_, rfl⟩
          rw [hw6] at VF BR HO KA
          replace hw6 := Hid.mk hw6
          replace VF := Hid.mk VF
          replace BR := Hid.mk BR
          replace HO := Hid.mk HO
          replace KA := Hid.mk KA
          clear O5 b5 bq5 VD OL
          refine wpAnyH_ready (rs := [15]) (by kernel_rfl) (by simp) ?_
          refine AllReadyH.cons (o := _) rfl (fun K0 hK0 => ?_) AllReadyH.nil
          rw [if_pos (by rfl)]
          refine wp_stroke w6 26 _ _ rfl w.heap.size 0 #[.int .i64 0, .int .i64 d1, .int .i64 A, .int .i64 C, .int .i64 N, .slice c5 0 d5] rfl rfl HT.out (by kernel_rfl) (by kernel_rfl) hw6.out ?_
          refine hK0.out _ _ KA.out (fun hHeld => ?_)
          clear hK0 K0 hHeld KA HT
          refine wpAnyH_done (by kernel_rfl) ?_ _
          go_wp2
          refine bodyPost_ret (v := .agg #[.int .i64 0, .int .i64 d1, .int .i64 A, .int .i64 C, .int .i64 N, .slice c5 0 d5]) (results_row Try.results12 _ _ (w.heap.size) [.int .i64 0, .int .i64 d1, .int .i64 A, .int .i64 C, .int .i64 N, .slice c5 0 d5] _ rfl VF.out Try.underlying26 rfl (by kernel_rfl)) rfl ⟨c5, d5, by first | rfl | rw [hl.out], HO.out, BR.out⟩
      · skip
        go_simp
        have bq101 := belowA wd (.cells #[] 5)
        have OE : Own .u8 5 (wd.alloc (.cells #[] 5)) Q (some ⟨wd.heap.size, 0, none⟩) 0 [] := (Own.lit wd 5 [] (Nat.zero_le _)).mono (by rw [← hQe.out]; exact (bd).size)
        refine hK0.out _ _ (K.out _ (thenB bd bq101)) (fun hHeld => ?_)
        clear hK0 K0
        try simp only [Act.put, List.getElem_toArray, List.getElem_cons_zero, List.getElem_cons_succ, List.setIfInBounds_toArray, List.set_cons_zero, List.set_cons_succ]
        generalize wd.alloc (.cells #[] 5) = wm101 at *
        skip
        refine wpAnyH_ready (rs := [5]) (by kernel_rfl) (by simp) ?_
        refine AllReadyH.cons (o := _) rfl (fun K0 hK0 => ?_) AllReadyH.nil
        go_simp
        go_at_call 48
        refine (CT.out 2 4 (by decide) (by omega) _ (HRq.out.kept (thenB bd bq101))).mono ?_
        rintro e wc102 ⟨rfl, bc102⟩
        rw [ga.out]
        replace OE := OE.kept bc102
        refine hK0.out _ _ (K.out _ (thenB (thenB bd bq101) bc102)) (fun hHeld => ?_)
        clear hK0 K0
        try simp only [Act.put, List.getElem_toArray, List.getElem_cons_zero, List.getElem_cons_succ, List.setIfInBounds_toArray, List.set_cons_zero, List.set_cons_succ]
        refine wpAnyH_ready (rs := [7]) (by kernel_rfl) (by simp) ?_
        refine AllReadyH.cons (o := _) rfl (fun K0 hK0 => ?_) AllReadyH.nil
        go_simp
        go_at_call 48
        refine (CT.out 6 4 (by decide) (by omega) _ (HRq.out.kept (thenB (thenB bd bq101) bc102))).mono ?_
        rintro e wc103 ⟨rfl, bc103⟩
        rw [gb.out]
        replace OE := OE.kept bc103
        refine hK0.out _ _ (K.out _ (thenB (thenB (thenB bd bq101) bc102) bc103)) (fun hHeld => ?_)
        clear hK0 K0
        try simp only [Act.put, List.getElem_toArray, List.getElem_cons_zero, List.getElem_cons_succ, List.setIfInBounds_toArray, List.set_cons_zero, List.set_cons_succ]
        refine wpAnyH_ready (rs := [9]) (by kernel_rfl) (by simp) ?_
        refine AllReadyH.cons (o := _) rfl (fun K0 hK0 => ?_) AllReadyH.nil
        go_simp
        go_at_call 48
        refine (CT.out 10 4 (by decide) (by omega) _ (HRq.out.kept (thenB (thenB (thenB bd bq101) bc102) bc103))).mono ?_
        rintro e wc104 ⟨rfl, bc104⟩
        rw [gn.out]
        replace OE := OE.kept bc104
        refine hK0.out _ _ (K.out _ (thenB (thenB (thenB (thenB bd bq101) bc102) bc103) bc104)) (fun hHeld => ?_)
        clear hK0 K0
        try simp only [Act.put, List.getElem_toArray, List.getElem_cons_zero, List.getElem_cons_succ, List.setIfInBounds_toArray, List.set_cons_zero, List.set_cons_succ]
        refine wpAnyH_ready (rs := [13]) (by kernel_rfl) (by simp) ?_
        refine AllReadyH.cons (o := _) rfl (fun K0 hK0 => ?_) AllReadyH.nil
        have hbw := OE.lt _ rfl
        have hsz := ((thenB (thenB (thenB (thenB bd bq101) bc102) bc103) bc104)).size
        have accB := Hid.mk ((thenB (thenB (thenB (thenB bd bq101) bc102) bc103) bc104))
        refine step_put _ rfl _ _ 22 rfl Q 5 i0 Try.underlying22 hi g0 g1 g2 _ 0 0 [] rfl OE rfl (some ⟨b2, o2, none⟩) 0 0 (ds.drop 16) rfl (RS.out.kept accB.out) hl.out (fun h => by cases h) 0 (ds.drop 16) (by omega) (by simp) (by omega) (by have := hQe.out; omega) ?_
        intro c5 d5 w5 O5 b5
        have bq5 : Below w21.heap.size w21 w5 := (accB.out).trans (b5.mono (by have := hQe.out; omega))
        refine hK0.out _ _ (K.out _ bq5) (fun hHeld => ?_)
        clear hK0 K0
        try simp only [Act.put, List.getElem_toArray, List.getElem_cons_zero, List.getElem_cons_succ, List.setIfInBounds_toArray, List.set_cons_zero, List.set_cons_succ]
        refine wpAnyH_take (i := 14) (oi := _) (v := ?vwrt13) rfl (by kernel_rfl) (by kernel_rfl) (by kernel_rfl) (fun _ _ _ h => h) (Or.inl ⟨by kernel_rfl, ?hywrt13⟩) hHeld ?restwrt13
        case hywrt13 => (intro w hSw; (try dsimp only at hSw); go_simp; first | done | with_reducible rfl)
        try simp only [Act.put, List.getElem_toArray, List.getElem_cons_zero, List.getElem_cons_succ, List.setIfInBounds_toArray, List.set_cons_zero, List.set_cons_succ]
        have OL := Hid.mk (fun b hb => (O5.lt b hb).1)
        have VD := VR.out.kept bq5
        have HT := Hid.mk VD.there
        have VF := VD.filled [.int .i64 0, .int .i64 d1, .int .i64 A, .int .i64 C, .int .i64 N, .slice c5 0 d5] rfl
        have BR := belowCells (thenB B.out bq5) (Nat.le_refl w.heap.size) 0 [.int .i64 0, .int .i64 d1, .int .i64 A, .int .i64 C, .int .i64 N, .slice c5 0 d5]
        have HO := (O5.mono (show w.heap.size ≤ Q by have := hQ.out; have := hQe.out; omega)).apart8 (B := w.heap.size) (by intro b hb; have := OL.out b hb; have := hQ.out; have := hQe.out; omega) 0 [.int .i64 0, .int .i64 d1, .int .i64 A, .int .i64 C, .int .i64 N, .slice c5 0 d5]
        have KA : (World.setCells w5 w.heap.size 0 [.int .i64 0, .int .i64 d1, .int .i64 A, .int .i64 C, .int .i64 N, .slice c5 0 d5]).cell? ⟨b2, o2 + 1, none⟩ = some (.int .u8 d1) := (cells_far (by omega) 0 [.int .i64 0, .int .i64 d1, .int .i64 A, .int .i64 C, .int .i64 N, .slice c5 0 d5]).trans (K.out _ bq5)
        obtain ⟨w6, hw6⟩ : ∃ w6, World.setCells w5 w.heap.size 0 [.int .i64 0, .int .i64 d1, .int .i64 A, .int .i64 C, .int .i64 N, .slice c5 0 d5] = w6 := ⟨_, rfl⟩
        rw [hw6] at VF BR HO KA
        replace hw6 := Hid.mk hw6
        replace VF := Hid.mk VF
        replace BR := Hid.mk BR
        replace HO := Hid.mk HO
        replace KA := Hid.mk KA
        clear O5 b5 bq5 VD OL
        refine wpAnyH_ready (rs := [15]) (by kernel_rfl) (by simp) ?_
        refine AllReadyH.cons (o := _) rfl (fun K0 hK0 => ?_) AllReadyH.nil
        rw [if_pos (by rfl)]
        refine wp_stroke w6 26 _ _ rfl w.heap.size 0 #[.int .i64 0, .int .i64 d1, .int .i64 A, .int .i64 C, .int .i64 N, .slice c5 0 d5] rfl rfl HT.out (by kernel_rfl) (by kernel_rfl) hw6.out ?_
        refine hK0.out _ _ KA.out (fun hHeld => ?_)
        clear hK0 K0 hHeld KA HT
        refine wpAnyH_done (by kernel_rfl) ?_ _
        go_wp2
        refine bodyPost_ret (v := .agg #[.int .i64 0, .int .i64 d1, .int .i64 A, .int .i64 C, .int .i64 N, .slice c5 0 d5]) (results_row Try.results12 _ _ (w.heap.size) [.int .i64 0, .int .i64 d1, .int .i64 A, .int .i64 C, .int .i64 N, .slice c5 0 d5] _ rfl VF.out Try.underlying26 rfl (by kernel_rfl)) rfl ⟨c5, d5, by first | rfl | rw [hl.out], HO.out, BR.out⟩

theorem specDecodeFrame_ok (b : Option Addr) (n ca : Nat) (ds : List Int) (w : World) (hr : Rd .u8 w b ds) (hb : Bytes ds) (hn : ds.length = n) (hx : n ≤ 1048576) (hca : n ≤ ca) (_ : ca ≤ maxLen) :
    Calls Try.prog 12 #[.slice b n ca] w fun e w' => ∃ c d, e = .returned (.agg #[.int .i64 (frC ds), .int .i64 (frV ds (ds.getD 1 0)), .int .i64 (frV ds (takeN ds 2 4)), .int .i64 (frV ds (takeN ds 6 4)), .int .i64 (frV ds (takeN ds 10 4)), .slice c (frL ds).length d]) ∧ Own .u8 5 w' w.heap.size c d (frL ds) ∧ Below w.heap.size w w' := specDecodeFrame_any b n ca ds w hr hb hn hx hca

end Go.Proofs.Ytfldgeokigcokaa
