/- Put together: WrD, WrE, WrF, WrH. -/
import Derived.Test.YtfldgeokigcokaaGreatFWn
import Derived.Test.YtfldgeokigcokaaGreatFWt
import Derived.Test.YtfldgeokigcokaaGreatDrawP
import Derived.Test.YtfldgeokigcokaaGreatFWl
import Derived.Test.YtfldgeokigcokaaGreatHeld
import Derived.Test.YtfldgeokigcokaaGreatHeldR
import Derived.Test.YtfldgeokigcokaaGreatFWj
import Derived.Test.YtfldgeokigcokaaGreatFWq

/- Depths: the model. -/
namespace Go.Proofs.YtfldgeokigcokaaGreat
open Go.RowKit

set_option maxRecDepth 20000 in
set_option maxHeartbeats 8000000 in
theorem l7Depths_ok (a : Option Addr) (n ca : Nat) (xs : List T4) (w : World) (ha : RdTerm w a xs) (hn : xs.length = n) (hv : tfC xs = 0) :
    Calls Tryz.prog 30 #[.slice a n ca] w fun e w' => ∃ c d, e = .returned (.slice c n d) ∧ Own .i64 2 w' w.heap.size c d (dpL xs n) ∧ Below w.heap.size w w' := by
  have hn4 : n ≤ 400 := by have := (tfC_zero hv).1; omega
  have HAh := Hid.mk (tfC_ahead hv)
  have HDP := Hid.mk (dp_in hv)
  rw [hn] at HDP
  have HA := Hid.mk ha
  have OL := Hid.mk (OwnI.lit w [] [] rfl (Nat.zero_le _))
  clear ha hv
  go_enter Tryz.func30, Tryz.ntmps30
  go_wp2
  go_loopw [3, 4] (fun s i wr => ∃ (k : Nat) (c : Option Addr) (d : Nat), k ≤ n ∧ i = .int .i64 k ∧ s = .slice c k d ∧ Own .i64 2 wr w.heap.size c d (dpL xs k) ∧ Below w.heap.size w wr) (fun _ i _ => n - (intOf i).toNat)
  case atStart => exact ⟨0, some ⟨w.heap.size, 0, none⟩, 0, Nat.zero_le _, rfl, rfl, OL.out, belowA _ _⟩
  case round =>
    clear OL
    obtain ⟨k, c, d, hk, rfl, rfl, O, B⟩ := hrel
    by_cases hlt : k < n
    · obtain ⟨x, hx1⟩ : ∃ x, xs.getD k zTerm = x := ⟨_, rfl⟩
      have hk1 : (k : Int) < (n : Int) := by omega
      have hs := dp_step k (by omega) HAh.out hx1
      obtain ⟨hA1, hB1⟩ := HAh.out k (by omega)
      rw [hx1] at hA1 hB1
      have hO := dpL_len xs k
      rcases HA.out.kept B with h0 | ⟨b1, o1, rfl, hca⟩
      · rw [h0] at hn; simp at hn; omega
      obtain ⟨p0, p1, p2, p3⟩ := RdTerm.cells hca k (by omega) x hx1
      clear hca hx1
      rcases kids_cases x.o with hk2 | hk2 | hk2
      · skip
        rw [hk2] at hs
        simp only [show ¬ ((1 : Int) < 0) by decide, Int.lt_irrefl, if_false] at hs
        obtain ⟨v, hv⟩ : ∃ v, (den xs k).dp = v := ⟨_, rfl⟩
        have HNX := Hid.mk (dpL_next xs k)
        rw [hv] at hs HNX
        have HO := Hid.mk hO
        have OLT := Hid.mk O.lt
        obtain rfl : v = 1 := by omega
        clear hs hv  hA1 hB1
        have O2 := O.kept (belowA wr (.cells #[.int .i64 1] 2))
        have B2 := thenB B (belowA wr (.cells #[.int .i64 1] 2))
        have TL := B2.size
        replace B2 := Hid.mk B2
        replace O2 := Hid.mk O2
        go_wp2_with (first | (go_at_call 51; refine (l5Kids_ok _ _).mono ?_; rintro e wq ⟨rfl, rfl⟩) | (at_builtin; go_loud (refine wpList_putI _ rfl _ _ rfl w.heap.size c d (dpL xs k) k HO.out rfl O2.out _ 1 1 rfl (cell_one' _ _ _ 0 _ rfl) (by omega) TL ?_)) | fail)
        intro c4 d4 w4 O4 hg4 hx4
        have B4 := Hid.mk (belowG (c := c) B2.out hg4 TL (fun b hb => (O2.out.lt b hb).1))
        rw [← HNX.out] at O4
        replace O4 := Hid.mk O4
        clear hg4 hx4 TL
        go_wp2
        go_roundw
        case rel => exact ⟨k + 1, c4, d4, by omega, by go_num, rfl, O4.out, B4.out⟩
        case measure => simp [intOf]; omega
      · skip
        obtain ⟨ja, hja⟩ : ∃ j : Nat, x.a = (j : Int) := ⟨x.a.toNat, by have := hA1 (by omega); omega⟩
        have hjk : ja < k := by have := hA1 (by omega); omega
        have hza := dpL_at xs k ja hjk
        rw [hk2] at hs
        rw [hja, Int.toNat_natCast] at hs
        simp only [show (0 : Int) < 1 by decide, if_true, Int.lt_irrefl, if_false] at hs
        obtain ⟨v, hv⟩ : ∃ v, (den xs k).dp = v := ⟨_, rfl⟩
        obtain ⟨sa, hsa⟩ : ∃ v, (den xs ja).dp = v := ⟨_, rfl⟩
        have hsb1 := HDP.out ja (by omega)
        rw [hsa] at hs hza hsb1
        have HNX := Hid.mk (dpL_next xs k)
        rw [hv] at hs HNX
        obtain ⟨g, hg, _⟩ : ∃ g, c = some ⟨g, 0, none⟩ ∧ True := ⟨_, (own_some O (by rw [hO]; omega)).choose_spec, trivial⟩
        subst hg
        have ra := O.rd
        rcases ra with ra | ⟨b3, o3, e3, ra⟩
        · rw [ra] at hO; simp at hO; omega
        simp only [Option.some.injEq, Addr.mk.injEq, and_true] at e3
        obtain ⟨rfl, rfl⟩ := e3
        have r0 := ra ja (by rw [hO]; omega)
        rw [hza, Nat.zero_add] at r0
        have HO := Hid.mk hO
        have OLT := Hid.mk O.lt
        obtain rfl : v = sa + 1 := by omega
        have hjl : (ja : Int) < (k : Int) := by omega
        rw [hja] at p1
        have w1 : sa + 1 ≤ 9223372036854775807 := by omega
        have w2 : -9223372036854775808 ≤ sa + 1 := by omega
        clear hs hv hza hsa hA1 hB1
        clear ra
        have O2 := O.kept (belowA wr (.cells #[.int .i64 (sa + 1)] 2))
        have B2 := thenB B (belowA wr (.cells #[.int .i64 (sa + 1)] 2))
        have TL := B2.size
        replace B2 := Hid.mk B2
        replace O2 := Hid.mk O2
        go_wp2_with (first | (go_at_call 51; refine (l5Kids_ok _ _).mono ?_; rintro e wq ⟨rfl, rfl⟩) | (at_builtin; go_loud (refine wpList_putI _ rfl _ _ rfl w.heap.size (some ⟨g, 0, none⟩) d (dpL xs k) k HO.out rfl O2.out _ 1 (sa + 1) rfl (cell_one' _ _ _ 0 _ rfl) (by omega) TL ?_)) | fail)
        intro c4 d4 w4 O4 hg4 hx4
        have B4 := Hid.mk (belowG (c := (some ⟨g, 0, none⟩)) B2.out hg4 TL (fun b hb => (O2.out.lt b hb).1))
        rw [← HNX.out] at O4
        replace O4 := Hid.mk O4
        clear hg4 hx4 TL
        go_wp2
        go_roundw
        case rel => exact ⟨k + 1, c4, d4, by omega, by go_num, rfl, O4.out, B4.out⟩
        case measure => simp [intOf]; omega
      · skip
        obtain ⟨ja, hja⟩ : ∃ j : Nat, x.a = (j : Int) := ⟨x.a.toNat, by have := hA1 (by omega); omega⟩
        have hjk : ja < k := by have := hA1 (by omega); omega
        have hza := dpL_at xs k ja hjk
        obtain ⟨jb, hjb⟩ : ∃ j : Nat, x.b = (j : Int) := ⟨x.b.toNat, by have := hB1 (by omega); omega⟩
        have hjkb : jb < k := by have := hB1 (by omega); omega
        have hzb := dpL_at xs k jb hjkb
        rw [hk2] at hs
        rw [hja, Int.toNat_natCast] at hs
        rw [hjb, Int.toNat_natCast] at hs
        simp only [show (1 : Int) < 2 by decide, if_true] at hs
        obtain ⟨v, hv⟩ : ∃ v, (den xs k).dp = v := ⟨_, rfl⟩
        obtain ⟨sa, hsa⟩ : ∃ v, (den xs ja).dp = v := ⟨_, rfl⟩
        have hsb1 := HDP.out ja (by omega)
        rw [hsa] at hs hza hsb1
        obtain ⟨sb, hsb⟩ : ∃ v, (den xs jb).dp = v := ⟨_, rfl⟩
        have hsb2 := HDP.out jb (by omega)
        rw [hsb] at hs hzb hsb2
        have HNX := Hid.mk (dpL_next xs k)
        rw [hv] at hs HNX
        obtain ⟨g, hg, _⟩ : ∃ g, c = some ⟨g, 0, none⟩ ∧ True := ⟨_, (own_some O (by rw [hO]; omega)).choose_spec, trivial⟩
        subst hg
        have ra := O.rd
        rcases ra with ra | ⟨b3, o3, e3, ra⟩
        · rw [ra] at hO; simp at hO; omega
        simp only [Option.some.injEq, Addr.mk.injEq, and_true] at e3
        obtain ⟨rfl, rfl⟩ := e3
        have r0 := ra ja (by rw [hO]; omega)
        rw [hza, Nat.zero_add] at r0
        have r1 := ra jb (by rw [hO]; omega)
        rw [hzb, Nat.zero_add] at r1
        have HO := Hid.mk hO
        have OLT := Hid.mk O.lt
        have CM := Hid.mk (l1Max_ok sa sb)
        obtain ⟨mm, hmm⟩ : ∃ m, max sa sb = m := ⟨_, rfl⟩
        have hmb : mm ≤ 400 ∧ 1 ≤ mm := by omega
        rw [hmm] at CM hs
        clear hmm
        obtain rfl : v = mm + 1 := by omega
        have hjl : (ja : Int) < (k : Int) := by omega
        rw [hja] at p1
        have hjl2 : (jb : Int) < (k : Int) := by omega
        rw [hjb] at p2
        have w1 : mm + 1 ≤ 9223372036854775807 := by omega
        have w2 : -9223372036854775808 ≤ mm + 1 := by omega
        clear hs hv hza hsa hzb hsb hA1 hB1
        clear ra
        have O2 := O.kept (belowA wr (.cells #[.int .i64 (mm + 1)] 2))
        have B2 := thenB B (belowA wr (.cells #[.int .i64 (mm + 1)] 2))
        have TL := B2.size
        replace B2 := Hid.mk B2
        replace O2 := Hid.mk O2
        go_wp2_with (first | (go_at_call 51; refine (l5Kids_ok _ _).mono ?_; rintro e wq ⟨rfl, rfl⟩) | (go_at_call 60; refine (CM.out _).mono ?_; rintro e wq ⟨rfl, rfl⟩) | (at_builtin; go_loud (refine wpList_putI _ rfl _ _ rfl w.heap.size (some ⟨g, 0, none⟩) d (dpL xs k) k HO.out rfl O2.out _ 1 (mm + 1) rfl (cell_one' _ _ _ 0 _ rfl) (by omega) TL ?_)) | fail)
        intro c4 d4 w4 O4 hg4 hx4
        have B4 := Hid.mk (belowG (c := (some ⟨g, 0, none⟩)) B2.out hg4 TL (fun b hb => (O2.out.lt b hb).1))
        rw [← HNX.out] at O4
        replace O4 := Hid.mk O4
        clear hg4 hx4 TL
        go_wp2
        go_roundw
        case rel => exact ⟨k + 1, c4, d4, by omega, by go_num, rfl, O4.out, B4.out⟩
        case measure => simp [intOf]; omega
    · have hkn : k = n := by omega
      subst hkn
      have HO := Hid.mk O
      clear O
      go_wp2
      go_ret
      exact ⟨c, d, rfl, HO.out, B⟩

end Go.Proofs.YtfldgeokigcokaaGreat

/- A term as bytes: the model. -/
namespace Go.Proofs.YtfldgeokigcokaaGreat
open Go.RowKit

/-- What a right table's term is made of, by its Op. -/
theorem den_kinds {xs : List T4} (h : tfC xs = 0) (k : Nat) (hk : k < xs.length) (o a b n : Int) (hx : xs.getD k zTerm = ⟨o, a, b, n⟩) :
    ((o = 1 ∨ o = 2) ∧ den xs k = .leaf o n ∧ 0 ≤ n ∧ n ≤ 9999)
    ∨ (o = 6 ∧ den xs k = .one 6 (den xs a.toNat) ∧ 0 ≤ a ∧ a < k)
    ∨ ((o = 3 ∨ o = 4 ∨ o = 5) ∧ den xs k = .two o (den xs a.toNat) (den xs b.toNat) ∧ (0 ≤ a ∧ a < k) ∧ 0 ≤ b ∧ b < k)
    ∨ (o = 7 ∧ ¬ (tmAt xs b).n < (tmAt xs a).n ∧ den xs k = .two 7 (den xs a.toNat) (den xs b.toNat) ∧ (0 ≤ a ∧ a < k) ∧ 0 ≤ b ∧ b < k)
    ∨ (o = 7 ∧ (tmAt xs b).n < (tmAt xs a).n ∧ den xs k = .two 7 (den xs b.toNat) (den xs a.toNat) ∧ (0 ≤ a ∧ a < k) ∧ 0 ≤ b ∧ b < k) := by
  have HA := tfC_ahead h
  have N := tfC_nice h
  obtain ⟨h1, h2⟩ := HA k hk
  have R := N.rise k hk
  have z := tm_zero ((tfC_zero h).2 k hk).1
  have d := den_at k hk HA
  rw [hx] at h1 h2 R z d
  simp only at h1 h2 R z d
  unfold mkTr at d
  simp only at d
  rcases kids_ways o with ⟨e, hk2⟩ | ⟨e, hk2⟩ | ⟨e, hk2⟩ | ⟨e, hk2⟩ | ⟨e, hk2⟩ | ⟨e3, e4, e5, e7, e6, hk2⟩
  iterate 3
    · have a1 := h1 (by omega)
      have a2 := h2 (by omega)
      rw [if_pos hk2, if_neg (fun hh => by omega)] at d
      exact .inr (.inr (.inl ⟨by omega, d, a1, a2⟩))
  · have a1 := h1 (by omega)
    have a2 := h2 (by omega)
    obtain ⟨r1, r2, _⟩ := R e
    have f1 := den_fresh a.toNat (by omega) HA r1
    have f2 := den_fresh b.toNat (by omega) HA r2
    have n1 : (den xs a.toNat).num = (tmAt xs a).n := by rw [f1]; rfl
    have n2 : (den xs b.toNat).num = (tmAt xs b).n := by rw [f2]; rfl
    rw [if_pos hk2, n1, n2] at d
    by_cases hc : (tmAt xs b).n < (tmAt xs a).n
    · rw [if_pos ⟨e, hc⟩, e] at d
      exact .inr (.inr (.inr (.inr ⟨e, hc, d, a1, a2⟩)))
    · rw [if_neg (fun hh => hc hh.2), e] at d
      exact .inr (.inr (.inr (.inl ⟨e, hc, d, a1, a2⟩)))
  · have a1 := h1 (by omega)
    rw [if_neg (by omega), if_pos hk2, e] at d
    exact .inr (.inl ⟨e, d, a1⟩)
  · rw [if_neg (by omega), if_neg (by omega)] at d
    exact .inl ⟨by omega, d, z.2.1⟩

set_option maxRecDepth 20000 in
set_option maxHeartbeats 16000000 in
theorem l7Encode_ok (a : Option Addr) (n ca : Nat) (xs : List T4) (hn : xs.length = n) (hv : tfC xs = 0) : ∀ k : Nat, k < n → (den xs k).sz ≤ 200 → ∀ w : World, RdTerm w a xs →
    Calls Tryz.prog 31 #[.slice a n ca, .int .i64 (k : Int)] w fun e w' => ∃ c d, e = .returned (.slice c (den xs k).enc.length d) ∧ Own .u8 5 w' w.heap.size c d (den xs k).enc ∧ Below w.heap.size w w' := by
  obtain ⟨i0, hi, q0, q1, q2⟩ := info_parts Tryz.info_u8
  have hn4 : n ≤ 400 := by have := (tfC_zero hv).1; omega
  intro k
  induction k using Nat.strongRecOn with
  | ind k ih =>
    intro hk hsz w ha
    have hk1 : (k : Int) < (n : Int) := by omega
    obtain ⟨⟨xo, xa, xb, xn⟩, hx⟩ : ∃ x, xs.getD k zTerm = x := ⟨_, rfl⟩
    have HW := den_kinds hv k (by omega) xo xa xb xn hx
    have HA := Hid.mk ha
    rcases ha with h0 | ⟨b1, o1, rfl, hca⟩
    · rw [h0] at hn; simp at hn; omega
    obtain ⟨p0, p1, p2, p3⟩ := RdTerm.cells hca k (by omega) _ hx
    simp only at p0 p1 p2 p3
    clear hx
    rcases HW with ⟨rfl | rfl, hd, hn0, hn9⟩ | ⟨rfl, hd, ha0, hak⟩ | ⟨rfl | rfl | rfl, hd, ⟨ha0, hak⟩, hb0, hbk⟩ | ⟨rfl, hcm, hd, ⟨ha0, hak⟩, hb0, hbk⟩ | ⟨rfl, hcm, hd, ⟨ha0, hak⟩, hb0, hbk⟩
    · skip
      rw [hd]
      have HENC : (Tr.leaf 1 xn).enc = [1] ++ putN xn 2 := by rw [putN_of2]; rfl
      replace HENC := Hid.mk HENC
      have HLEN : (Tr.leaf 1 xn).enc.length = 3 := rfl
      replace HLEN := Hid.mk HLEN
      clear hd hca ih hsz
      have B := Below.refl w.heap.size w
      have CK := l5Kids_ok 1
      rw [show kids 1 = 0 by unfold kids; simp] at CK
      replace CK := Hid.mk CK
      replace B := thenB B (belowA w (.cells #[.int .i64 1, .int .i64 xa, .int .i64 xb, .int .i64 xn] 70))
      have VX := V.new w [.int .i64 1, .int .i64 xa, .int .i64 xb, .int .i64 xn] 70
      have OO := Own.lit (w.alloc (.cells #[.int .i64 1, .int .i64 xa, .int .i64 xb, .int .i64 xn] 70)) 5 [1] (by unfold maxLen; decide)
      simp only [World.size_alloc, List.length_cons, List.length_nil] at OO
      replace VX := VX.kept (belowA (w.alloc (.cells #[.int .i64 1, .int .i64 xa, .int .i64 xb, .int .i64 xn] 70)) (.cells #[.int .u8 1] 5))
      replace B := thenB B (belowA (w.alloc (.cells #[.int .i64 1, .int .i64 xa, .int .i64 xb, .int .i64 xn] 70)) (.cells #[.int .u8 1] 5))
      have OQ := Hid.mk OO
      clear OO
      obtain ⟨s_VX, f_VX, z_VX⟩ := VX.open
      go_enter Tryz.func31, Tryz.ntmps31
      go_wp2_with (first | (go_at_call 51; refine (CK.out _).mono ?_; rintro e wq ⟨rfl, rfl⟩) | fail)
      refine (l1Bytes_ok xn 2 _ (by omega) (by omega)).mono ?_
      rintro e w1 ⟨c1, d1, rfl, O1, b1⟩
      clear s_VX f_VX z_VX
      have OR := Hid.mk (OQ.out.kept b1)
      have O1r := Hid.mk O1.rd
      have O1n := Hid.mk O1.nocap
      have S1 := b1.size
      simp only [World.size_alloc] at S1
      replace B := Hid.mk (thenB B b1)
      clear b1 O1 OQ VX
      go_wp2_with (at_builtin; go_loud (refine wpList_put _ rfl _ _ 22 rfl (w.heap.size + 1) 5 i0 Tryz.underlying22 hi q0 q1 q2 _ _ 1 _ rfl OR.out rfl _ 2 _ _ rfl O1r.out (length_putN _ _) O1n.out 3 ([1] ++ putN xn 2) (by omega) rfl (by omega) (by omega) ?_))
      intro c2 d2 w2 O2 b2
      have BF := Hid.mk (B.out.trans (b2.mono (by omega)))
      have O3 := Hid.mk (O2.mono (Nat.le_succ _))
      clear b2 O2
      go_wp2
      go_ret
      rw [HLEN.out, HENC.out]
      exact ⟨c2, d2, rfl, O3.out, BF.out⟩
    · skip
      rw [hd]
      have HENC : (Tr.leaf 2 xn).enc = [2] ++ putN xn 2 := by rw [putN_of2]; rfl
      replace HENC := Hid.mk HENC
      have HLEN : (Tr.leaf 2 xn).enc.length = 3 := rfl
      replace HLEN := Hid.mk HLEN
      clear hd hca ih hsz
      have B := Below.refl w.heap.size w
      have CK := l5Kids_ok 2
      rw [show kids 2 = 0 by unfold kids; simp] at CK
      replace CK := Hid.mk CK
      replace B := thenB B (belowA w (.cells #[.int .i64 2, .int .i64 xa, .int .i64 xb, .int .i64 xn] 70))
      have VX := V.new w [.int .i64 2, .int .i64 xa, .int .i64 xb, .int .i64 xn] 70
      have OO := Own.lit (w.alloc (.cells #[.int .i64 2, .int .i64 xa, .int .i64 xb, .int .i64 xn] 70)) 5 [2] (by unfold maxLen; decide)
      simp only [World.size_alloc, List.length_cons, List.length_nil] at OO
      replace VX := VX.kept (belowA (w.alloc (.cells #[.int .i64 2, .int .i64 xa, .int .i64 xb, .int .i64 xn] 70)) (.cells #[.int .u8 2] 5))
      replace B := thenB B (belowA (w.alloc (.cells #[.int .i64 2, .int .i64 xa, .int .i64 xb, .int .i64 xn] 70)) (.cells #[.int .u8 2] 5))
      have OQ := Hid.mk OO
      clear OO
      obtain ⟨s_VX, f_VX, z_VX⟩ := VX.open
      go_enter Tryz.func31, Tryz.ntmps31
      go_wp2_with (first | (go_at_call 51; refine (CK.out _).mono ?_; rintro e wq ⟨rfl, rfl⟩) | fail)
      refine (l1Bytes_ok xn 2 _ (by omega) (by omega)).mono ?_
      rintro e w1 ⟨c1, d1, rfl, O1, b1⟩
      clear s_VX f_VX z_VX
      have OR := Hid.mk (OQ.out.kept b1)
      have O1r := Hid.mk O1.rd
      have O1n := Hid.mk O1.nocap
      have S1 := b1.size
      simp only [World.size_alloc] at S1
      replace B := Hid.mk (thenB B b1)
      clear b1 O1 OQ VX
      go_wp2_with (at_builtin; go_loud (refine wpList_put _ rfl _ _ 22 rfl (w.heap.size + 1) 5 i0 Tryz.underlying22 hi q0 q1 q2 _ _ 1 _ rfl OR.out rfl _ 2 _ _ rfl O1r.out (length_putN _ _) O1n.out 3 ([2] ++ putN xn 2) (by omega) rfl (by omega) (by omega) ?_))
      intro c2 d2 w2 O2 b2
      have BF := Hid.mk (B.out.trans (b2.mono (by omega)))
      have O3 := Hid.mk (O2.mono (Nat.le_succ _))
      clear b2 O2
      go_wp2
      go_ret
      rw [HLEN.out, HENC.out]
      exact ⟨c2, d2, rfl, O3.out, BF.out⟩
    · skip
      obtain ⟨ja, rfl⟩ : ∃ j : Nat, xa = (j : Int) := ⟨xa.toNat, by omega⟩
      simp only [Int.toNat_natCast] at hd
      have hja : ja < k := by omega
      have hjan : (ja : Int) < (n : Int) := by omega
      have CA := ih ja (by omega) (by omega)
      obtain ⟨TA, hTA⟩ : ∃ t, den xs ja = t := ⟨_, rfl⟩
      rw [hTA] at CA hd
      rw [hd] at hsz ⊢
      simp only [Tr.sz] at hsz
      have pA := TA.sz_in
      have lA : (TA.enc.length : Int) ≤ 600 := by have := TA.enc_len (by omega); omega
      replace CA := Hid.mk (CA (by omega))
      obtain ⟨la, hla⟩ : ∃ l, TA.enc.length = l := ⟨_, rfl⟩
      have HENC : (Tr.one 6 TA).enc = [6] ++ TA.enc := by simp [Tr.enc]
      replace HENC := Hid.mk HENC
      have HLEN : (Tr.one 6 TA).enc.length = 1 + la := by simp [Tr.enc, hla]; omega
      replace HLEN := Hid.mk HLEN
      rw [hla] at CA lA
      replace hla := Hid.mk hla
      clear hd hTA hca ih hsz pA
      have B := Below.refl w.heap.size w
      have CK := l5Kids_ok 6
      rw [show kids 6 = 1 by unfold kids; simp] at CK
      replace CK := Hid.mk CK
      replace B := thenB B (belowA w (.cells #[.int .i64 6, .int .i64 (ja : Int), .int .i64 xb, .int .i64 xn] 70))
      have VX := V.new w [.int .i64 6, .int .i64 (ja : Int), .int .i64 xb, .int .i64 xn] 70
      have OO := Own.lit (w.alloc (.cells #[.int .i64 6, .int .i64 (ja : Int), .int .i64 xb, .int .i64 xn] 70)) 5 [6] (by unfold maxLen; decide)
      simp only [World.size_alloc, List.length_cons, List.length_nil] at OO
      replace VX := VX.kept (belowA (w.alloc (.cells #[.int .i64 6, .int .i64 (ja : Int), .int .i64 xb, .int .i64 xn] 70)) (.cells #[.int .u8 6] 5))
      replace B := thenB B (belowA (w.alloc (.cells #[.int .i64 6, .int .i64 (ja : Int), .int .i64 xb, .int .i64 xn] 70)) (.cells #[.int .u8 6] 5))
      have OQ := Hid.mk OO
      clear OO
      obtain ⟨s_VX, f_VX, z_VX⟩ := VX.open
      go_enter Tryz.func31, Tryz.ntmps31
      go_wp2_with (first | (go_at_call 51; refine (CK.out _).mono ?_; rintro e wq ⟨rfl, rfl⟩) | fail)
      go_quiet (fail)
      clear s_VX f_VX z_VX
      have bq := belowN (Below.refl (((w.alloc (.cells #[.int .i64 6, .int .i64 (ja : Int), .int .i64 xb, .int .i64 xn] 70)).alloc (.cells #[.int .u8 6] 5))).heap.size (((w.alloc (.cells #[.int .i64 6, .int .i64 (ja : Int), .int .i64 xb, .int .i64 xn] 70)).alloc (.cells #[.int .u8 6] 5)))) nq
      have OR := Hid.mk (OQ.out.kept bq)
      have S0 := bq.size
      simp only [World.size_alloc] at S0
      replace VX := VX.kept bq
      replace B := thenB B bq
      clear bq OQ
      generalize World.drewN ((w.alloc (.cells #[.int .i64 6, .int .i64 (ja : Int), .int .i64 xb, .int .i64 xn] 70)).alloc (.cells #[.int .u8 6] 5)) nq = wn at *
      obtain ⟨s_VX, f_VX, z_VX⟩ := VX.open
      go_wp2_with (first | (go_at_call 51; refine (CK.out _).mono ?_; rintro e wq ⟨rfl, rfl⟩) | fail)
      refine (CA.out _ (HA.out.kept B)).mono ?_
      rintro e waa ⟨cwa, dwa, rfl, Owa, bwa⟩
      clear s_VX f_VX z_VX
      replace OR := Hid.mk (OR.out.kept bwa)
      have Nwa := Hid.mk Owa.nocap
      have Rwa := Hid.mk Owa.rd
      have S_wa := bwa.size
      replace VX := VX.kept bwa
      replace B := thenB B bwa
      clear bwa Owa
      replace B := Hid.mk B
      replace VX := Hid.mk VX
      go_wp2_with (at_builtin; go_loud (refine wpList_put _ rfl _ _ 22 rfl (w.heap.size + 1) 5 i0 Tryz.underlying22 hi q0 q1 q2 _ _ 1 _ rfl OR.out rfl _ la _ _ rfl Rwa.out hla.out Nwa.out (1 + la) ([6] ++ TA.enc) (by omega) rfl (by omega) (by omega) ?_))
      intro cwab dwab wab Owab bwab
      skip
      clear OR
      replace VX := VX.out.keptB (by omega) bwab
      replace B := B.out.trans (bwab.mono (by omega))
      have S_wab : waa.heap.size ≤ wab.heap.size ∨ True := .inr trivial
      have OR := Hid.mk Owab
      clear bwab Owab
      have hsz : w.heap.size + 1 ≤ wab.heap.size := by have := OR.out.lt; have h1 := VX.1; have h2 := OR.out.some_of (by simp); obtain ⟨g4, rfl, h3⟩ := h2; have := (OR.out.lt _ rfl).2; simp only at this; omega
      obtain ⟨s_VX, f_VX, z_VX⟩ := VX.open
      go_wp2_with (first | (go_at_call 51; refine (CK.out _).mono ?_; rintro e wq ⟨rfl, rfl⟩) | fail)
      go_ret
      rw [HLEN.out, HENC.out]
      exact ⟨cwab, dwab, rfl, OR.out.mono (Nat.le_succ _), B⟩
    · skip
      obtain ⟨ja, rfl⟩ : ∃ j : Nat, xa = (j : Int) := ⟨xa.toNat, by omega⟩
      obtain ⟨jb, rfl⟩ : ∃ j : Nat, xb = (j : Int) := ⟨xb.toNat, by omega⟩
      simp only [Int.toNat_natCast] at hd
      have hja : ja < k := by omega
      have hjb : jb < k := by omega
      have hjan : (ja : Int) < (n : Int) := by omega
      have hjbn : (jb : Int) < (n : Int) := by omega
      have CA := ih ja (by omega) (by omega)
      have CB := ih jb (by omega) (by omega)
      obtain ⟨TA, hTA⟩ : ∃ t, den xs ja = t := ⟨_, rfl⟩
      obtain ⟨TB, hTB⟩ : ∃ t, den xs jb = t := ⟨_, rfl⟩
      rw [hTA] at CA
      rw [hTB] at CB
      rw [hTA, hTB] at hd
      rw [hd] at hsz ⊢
      simp only [Tr.sz] at hsz
      have pA := TA.sz_in
      have pB := TB.sz_in
      have lA : (TA.enc.length : Int) ≤ 600 := by have := TA.enc_len (by omega); omega
      have lB : (TB.enc.length : Int) ≤ 600 := by have := TB.enc_len (by omega); omega
      replace CA := Hid.mk (CA (by omega))
      replace CB := Hid.mk (CB (by omega))
      obtain ⟨la, hla⟩ : ∃ l, TA.enc.length = l := ⟨_, rfl⟩
      obtain ⟨lb, hlb⟩ : ∃ l, TB.enc.length = l := ⟨_, rfl⟩
      have HENC : (Tr.two 3 TA TB).enc = ([3] ++ TA.enc) ++ TB.enc := by simp [Tr.enc]
      replace HENC := Hid.mk HENC
      have HLEN : (Tr.two 3 TA TB).enc.length = 1 + la + lb := by simp [Tr.enc, hla, hlb]; omega
      replace HLEN := Hid.mk HLEN
      rw [hla] at CA lA
      rw [hlb] at CB lB
      replace hla := Hid.mk hla
      replace hlb := Hid.mk hlb
      clear hd hTA hTB hca ih hsz pA pB
      have B := Below.refl w.heap.size w
      have CK := l5Kids_ok 3
      rw [show kids 3 = 2 by unfold kids; simp] at CK
      replace CK := Hid.mk CK
      replace B := thenB B (belowA w (.cells #[.int .i64 3, .int .i64 (ja : Int), .int .i64 (jb : Int), .int .i64 xn] 70))
      have VX := V.new w [.int .i64 3, .int .i64 (ja : Int), .int .i64 (jb : Int), .int .i64 xn] 70
      have OO := Own.lit (w.alloc (.cells #[.int .i64 3, .int .i64 (ja : Int), .int .i64 (jb : Int), .int .i64 xn] 70)) 5 [3] (by unfold maxLen; decide)
      simp only [World.size_alloc, List.length_cons, List.length_nil] at OO
      replace VX := VX.kept (belowA (w.alloc (.cells #[.int .i64 3, .int .i64 (ja : Int), .int .i64 (jb : Int), .int .i64 xn] 70)) (.cells #[.int .u8 3] 5))
      replace B := thenB B (belowA (w.alloc (.cells #[.int .i64 3, .int .i64 (ja : Int), .int .i64 (jb : Int), .int .i64 xn] 70)) (.cells #[.int .u8 3] 5))
      have OQ := Hid.mk OO
      clear OO
      obtain ⟨s_VX, f_VX, z_VX⟩ := VX.open
      go_enter Tryz.func31, Tryz.ntmps31
      go_wp2_with (first | (go_at_call 51; refine (CK.out _).mono ?_; rintro e wq ⟨rfl, rfl⟩) | fail)
      go_quiet (fail)
      clear s_VX f_VX z_VX
      have bq := belowN (Below.refl (((w.alloc (.cells #[.int .i64 3, .int .i64 (ja : Int), .int .i64 (jb : Int), .int .i64 xn] 70)).alloc (.cells #[.int .u8 3] 5))).heap.size (((w.alloc (.cells #[.int .i64 3, .int .i64 (ja : Int), .int .i64 (jb : Int), .int .i64 xn] 70)).alloc (.cells #[.int .u8 3] 5)))) nq
      have OR := Hid.mk (OQ.out.kept bq)
      have S0 := bq.size
      simp only [World.size_alloc] at S0
      replace VX := VX.kept bq
      replace B := thenB B bq
      clear bq OQ
      generalize World.drewN ((w.alloc (.cells #[.int .i64 3, .int .i64 (ja : Int), .int .i64 (jb : Int), .int .i64 xn] 70)).alloc (.cells #[.int .u8 3] 5)) nq = wn at *
      obtain ⟨s_VX, f_VX, z_VX⟩ := VX.open
      go_wp2_with (first | (go_at_call 51; refine (CK.out _).mono ?_; rintro e wq ⟨rfl, rfl⟩) | fail)
      refine (CA.out _ (HA.out.kept B)).mono ?_
      rintro e waa ⟨cwa, dwa, rfl, Owa, bwa⟩
      clear s_VX f_VX z_VX
      replace OR := Hid.mk (OR.out.kept bwa)
      have Nwa := Hid.mk Owa.nocap
      have Rwa := Hid.mk Owa.rd
      have S_wa := bwa.size
      replace VX := VX.kept bwa
      replace B := thenB B bwa
      clear bwa Owa
      replace B := Hid.mk B
      replace VX := Hid.mk VX
      go_wp2_with (at_builtin; go_loud (refine wpList_put _ rfl _ _ 22 rfl (w.heap.size + 1) 5 i0 Tryz.underlying22 hi q0 q1 q2 _ _ 1 _ rfl OR.out rfl _ la _ _ rfl Rwa.out hla.out Nwa.out (1 + la) ([3] ++ TA.enc) (by omega) rfl (by omega) (by omega) ?_))
      intro cwab dwab wab Owab bwab
      skip
      clear OR
      replace VX := VX.out.keptB (by omega) bwab
      replace B := B.out.trans (bwab.mono (by omega))
      have S_wab : waa.heap.size ≤ wab.heap.size ∨ True := .inr trivial
      have OR := Hid.mk Owab
      clear bwab Owab
      have hsz : w.heap.size + 1 ≤ wab.heap.size := by have := OR.out.lt; have h1 := VX.1; have h2 := OR.out.some_of (by simp); obtain ⟨g4, rfl, h3⟩ := h2; have := (OR.out.lt _ rfl).2; simp only at this; omega
      obtain ⟨s_VX, f_VX, z_VX⟩ := VX.open
      go_wp2_with (first | (go_at_call 51; refine (CK.out _).mono ?_; rintro e wq ⟨rfl, rfl⟩) | fail)
      refine (CB.out _ (HA.out.kept B)).mono ?_
      rintro e wba ⟨cwb, dwb, rfl, Owb, bwb⟩
      clear s_VX f_VX z_VX
      replace OR := Hid.mk (OR.out.kept bwb)
      have Nwb := Hid.mk Owb.nocap
      have Rwb := Hid.mk Owb.rd
      have S_wb := bwb.size
      replace VX := VX.kept bwb
      replace B := thenB B bwb
      clear bwb Owb
      replace B := Hid.mk B
      replace VX := Hid.mk VX
      go_wp2_with (at_builtin; go_loud (refine wpList_put _ rfl _ _ 22 rfl (w.heap.size + 1) 5 i0 Tryz.underlying22 hi q0 q1 q2 _ _ (1 + la) _ rfl OR.out (by simp [hla.out]; omega) _ lb _ _ rfl Rwb.out hlb.out Nwb.out (1 + la + lb) (([3] ++ TA.enc) ++ TB.enc) (by omega) rfl (by omega) (by omega) ?_))
      intro cwbb dwbb wbb Owbb bwbb
      skip
      clear OR
      replace VX := VX.out.keptB (by omega) bwbb
      replace B := B.out.trans (bwbb.mono (by omega))
      have S_wbb : wba.heap.size ≤ wbb.heap.size ∨ True := .inr trivial
      have OR := Hid.mk Owbb
      clear bwbb Owbb
      obtain ⟨s_VX, f_VX, z_VX⟩ := VX.open
      go_wp2
      go_ret
      rw [HLEN.out, HENC.out]
      exact ⟨cwbb, dwbb, rfl, OR.out.mono (Nat.le_succ _), B⟩
    · skip
      obtain ⟨ja, rfl⟩ : ∃ j : Nat, xa = (j : Int) := ⟨xa.toNat, by omega⟩
      obtain ⟨jb, rfl⟩ : ∃ j : Nat, xb = (j : Int) := ⟨xb.toNat, by omega⟩
      simp only [Int.toNat_natCast] at hd
      have hja : ja < k := by omega
      have hjb : jb < k := by omega
      have hjan : (ja : Int) < (n : Int) := by omega
      have hjbn : (jb : Int) < (n : Int) := by omega
      have CA := ih ja (by omega) (by omega)
      have CB := ih jb (by omega) (by omega)
      obtain ⟨TA, hTA⟩ : ∃ t, den xs ja = t := ⟨_, rfl⟩
      obtain ⟨TB, hTB⟩ : ∃ t, den xs jb = t := ⟨_, rfl⟩
      rw [hTA] at CA
      rw [hTB] at CB
      rw [hTA, hTB] at hd
      rw [hd] at hsz ⊢
      simp only [Tr.sz] at hsz
      have pA := TA.sz_in
      have pB := TB.sz_in
      have lA : (TA.enc.length : Int) ≤ 600 := by have := TA.enc_len (by omega); omega
      have lB : (TB.enc.length : Int) ≤ 600 := by have := TB.enc_len (by omega); omega
      replace CA := Hid.mk (CA (by omega))
      replace CB := Hid.mk (CB (by omega))
      obtain ⟨la, hla⟩ : ∃ l, TA.enc.length = l := ⟨_, rfl⟩
      obtain ⟨lb, hlb⟩ : ∃ l, TB.enc.length = l := ⟨_, rfl⟩
      have HENC : (Tr.two 4 TA TB).enc = ([4] ++ TA.enc) ++ TB.enc := by simp [Tr.enc]
      replace HENC := Hid.mk HENC
      have HLEN : (Tr.two 4 TA TB).enc.length = 1 + la + lb := by simp [Tr.enc, hla, hlb]; omega
      replace HLEN := Hid.mk HLEN
      rw [hla] at CA lA
      rw [hlb] at CB lB
      replace hla := Hid.mk hla
      replace hlb := Hid.mk hlb
      clear hd hTA hTB hca ih hsz pA pB
      have B := Below.refl w.heap.size w
      have CK := l5Kids_ok 4
      rw [show kids 4 = 2 by unfold kids; simp] at CK
      replace CK := Hid.mk CK
      replace B := thenB B (belowA w (.cells #[.int .i64 4, .int .i64 (ja : Int), .int .i64 (jb : Int), .int .i64 xn] 70))
      have VX := V.new w [.int .i64 4, .int .i64 (ja : Int), .int .i64 (jb : Int), .int .i64 xn] 70
      have OO := Own.lit (w.alloc (.cells #[.int .i64 4, .int .i64 (ja : Int), .int .i64 (jb : Int), .int .i64 xn] 70)) 5 [4] (by unfold maxLen; decide)
      simp only [World.size_alloc, List.length_cons, List.length_nil] at OO
      replace VX := VX.kept (belowA (w.alloc (.cells #[.int .i64 4, .int .i64 (ja : Int), .int .i64 (jb : Int), .int .i64 xn] 70)) (.cells #[.int .u8 4] 5))
      replace B := thenB B (belowA (w.alloc (.cells #[.int .i64 4, .int .i64 (ja : Int), .int .i64 (jb : Int), .int .i64 xn] 70)) (.cells #[.int .u8 4] 5))
      have OQ := Hid.mk OO
      clear OO
      obtain ⟨s_VX, f_VX, z_VX⟩ := VX.open
      go_enter Tryz.func31, Tryz.ntmps31
      go_wp2_with (first | (go_at_call 51; refine (CK.out _).mono ?_; rintro e wq ⟨rfl, rfl⟩) | fail)
      go_quiet (fail)
      clear s_VX f_VX z_VX
      have bq := belowN (Below.refl (((w.alloc (.cells #[.int .i64 4, .int .i64 (ja : Int), .int .i64 (jb : Int), .int .i64 xn] 70)).alloc (.cells #[.int .u8 4] 5))).heap.size (((w.alloc (.cells #[.int .i64 4, .int .i64 (ja : Int), .int .i64 (jb : Int), .int .i64 xn] 70)).alloc (.cells #[.int .u8 4] 5)))) nq
      have OR := Hid.mk (OQ.out.kept bq)
      have S0 := bq.size
      simp only [World.size_alloc] at S0
      replace VX := VX.kept bq
      replace B := thenB B bq
      clear bq OQ
      generalize World.drewN ((w.alloc (.cells #[.int .i64 4, .int .i64 (ja : Int), .int .i64 (jb : Int), .int .i64 xn] 70)).alloc (.cells #[.int .u8 4] 5)) nq = wn at *
      obtain ⟨s_VX, f_VX, z_VX⟩ := VX.open
      go_wp2_with (first | (go_at_call 51; refine (CK.out _).mono ?_; rintro e wq ⟨rfl, rfl⟩) | fail)
      refine (CA.out _ (HA.out.kept B)).mono ?_
      rintro e waa ⟨cwa, dwa, rfl, Owa, bwa⟩
      clear s_VX f_VX z_VX
      replace OR := Hid.mk (OR.out.kept bwa)
      have Nwa := Hid.mk Owa.nocap
      have Rwa := Hid.mk Owa.rd
      have S_wa := bwa.size
      replace VX := VX.kept bwa
      replace B := thenB B bwa
      clear bwa Owa
      replace B := Hid.mk B
      replace VX := Hid.mk VX
      go_wp2_with (at_builtin; go_loud (refine wpList_put _ rfl _ _ 22 rfl (w.heap.size + 1) 5 i0 Tryz.underlying22 hi q0 q1 q2 _ _ 1 _ rfl OR.out rfl _ la _ _ rfl Rwa.out hla.out Nwa.out (1 + la) ([4] ++ TA.enc) (by omega) rfl (by omega) (by omega) ?_))
      intro cwab dwab wab Owab bwab
      skip
      clear OR
      replace VX := VX.out.keptB (by omega) bwab
      replace B := B.out.trans (bwab.mono (by omega))
      have S_wab : waa.heap.size ≤ wab.heap.size ∨ True := .inr trivial
      have OR := Hid.mk Owab
      clear bwab Owab
      have hsz : w.heap.size + 1 ≤ wab.heap.size := by have := OR.out.lt; have h1 := VX.1; have h2 := OR.out.some_of (by simp); obtain ⟨g4, rfl, h3⟩ := h2; have := (OR.out.lt _ rfl).2; simp only at this; omega
      obtain ⟨s_VX, f_VX, z_VX⟩ := VX.open
      go_wp2_with (first | (go_at_call 51; refine (CK.out _).mono ?_; rintro e wq ⟨rfl, rfl⟩) | fail)
      refine (CB.out _ (HA.out.kept B)).mono ?_
      rintro e wba ⟨cwb, dwb, rfl, Owb, bwb⟩
      clear s_VX f_VX z_VX
      replace OR := Hid.mk (OR.out.kept bwb)
      have Nwb := Hid.mk Owb.nocap
      have Rwb := Hid.mk Owb.rd
      have S_wb := bwb.size
      replace VX := VX.kept bwb
      replace B := thenB B bwb
      clear bwb Owb
      replace B := Hid.mk B
      replace VX := Hid.mk VX
      go_wp2_with (at_builtin; go_loud (refine wpList_put _ rfl _ _ 22 rfl (w.heap.size + 1) 5 i0 Tryz.underlying22 hi q0 q1 q2 _ _ (1 + la) _ rfl OR.out (by simp [hla.out]; omega) _ lb _ _ rfl Rwb.out hlb.out Nwb.out (1 + la + lb) (([4] ++ TA.enc) ++ TB.enc) (by omega) rfl (by omega) (by omega) ?_))
      intro cwbb dwbb wbb Owbb bwbb
      skip
      clear OR
      replace VX := VX.out.keptB (by omega) bwbb
      replace B := B.out.trans (bwbb.mono (by omega))
      have S_wbb : wba.heap.size ≤ wbb.heap.size ∨ True := .inr trivial
      have OR := Hid.mk Owbb
      clear bwbb Owbb
      obtain ⟨s_VX, f_VX, z_VX⟩ := VX.open
      go_wp2
      go_ret
      rw [HLEN.out, HENC.out]
      exact ⟨cwbb, dwbb, rfl, OR.out.mono (Nat.le_succ _), B⟩
    · skip
      obtain ⟨ja, rfl⟩ : ∃ j : Nat, xa = (j : Int) := ⟨xa.toNat, by omega⟩
      obtain ⟨jb, rfl⟩ : ∃ j : Nat, xb = (j : Int) := ⟨xb.toNat, by omega⟩
      simp only [Int.toNat_natCast] at hd
      have hja : ja < k := by omega
      have hjb : jb < k := by omega
      have hjan : (ja : Int) < (n : Int) := by omega
      have hjbn : (jb : Int) < (n : Int) := by omega
      have CA := ih ja (by omega) (by omega)
      have CB := ih jb (by omega) (by omega)
      obtain ⟨TA, hTA⟩ : ∃ t, den xs ja = t := ⟨_, rfl⟩
      obtain ⟨TB, hTB⟩ : ∃ t, den xs jb = t := ⟨_, rfl⟩
      rw [hTA] at CA
      rw [hTB] at CB
      rw [hTA, hTB] at hd
      rw [hd] at hsz ⊢
      simp only [Tr.sz] at hsz
      have pA := TA.sz_in
      have pB := TB.sz_in
      have lA : (TA.enc.length : Int) ≤ 600 := by have := TA.enc_len (by omega); omega
      have lB : (TB.enc.length : Int) ≤ 600 := by have := TB.enc_len (by omega); omega
      replace CA := Hid.mk (CA (by omega))
      replace CB := Hid.mk (CB (by omega))
      obtain ⟨la, hla⟩ : ∃ l, TA.enc.length = l := ⟨_, rfl⟩
      obtain ⟨lb, hlb⟩ : ∃ l, TB.enc.length = l := ⟨_, rfl⟩
      have HENC : (Tr.two 5 TA TB).enc = ([5] ++ TA.enc) ++ TB.enc := by simp [Tr.enc]
      replace HENC := Hid.mk HENC
      have HLEN : (Tr.two 5 TA TB).enc.length = 1 + la + lb := by simp [Tr.enc, hla, hlb]; omega
      replace HLEN := Hid.mk HLEN
      rw [hla] at CA lA
      rw [hlb] at CB lB
      replace hla := Hid.mk hla
      replace hlb := Hid.mk hlb
      clear hd hTA hTB hca ih hsz pA pB
      have B := Below.refl w.heap.size w
      have CK := l5Kids_ok 5
      rw [show kids 5 = 2 by unfold kids; simp] at CK
      replace CK := Hid.mk CK
      replace B := thenB B (belowA w (.cells #[.int .i64 5, .int .i64 (ja : Int), .int .i64 (jb : Int), .int .i64 xn] 70))
      have VX := V.new w [.int .i64 5, .int .i64 (ja : Int), .int .i64 (jb : Int), .int .i64 xn] 70
      have OO := Own.lit (w.alloc (.cells #[.int .i64 5, .int .i64 (ja : Int), .int .i64 (jb : Int), .int .i64 xn] 70)) 5 [5] (by unfold maxLen; decide)
      simp only [World.size_alloc, List.length_cons, List.length_nil] at OO
      replace VX := VX.kept (belowA (w.alloc (.cells #[.int .i64 5, .int .i64 (ja : Int), .int .i64 (jb : Int), .int .i64 xn] 70)) (.cells #[.int .u8 5] 5))
      replace B := thenB B (belowA (w.alloc (.cells #[.int .i64 5, .int .i64 (ja : Int), .int .i64 (jb : Int), .int .i64 xn] 70)) (.cells #[.int .u8 5] 5))
      have OQ := Hid.mk OO
      clear OO
      obtain ⟨s_VX, f_VX, z_VX⟩ := VX.open
      go_enter Tryz.func31, Tryz.ntmps31
      go_wp2_with (first | (go_at_call 51; refine (CK.out _).mono ?_; rintro e wq ⟨rfl, rfl⟩) | fail)
      go_quiet (fail)
      clear s_VX f_VX z_VX
      have bq := belowN (Below.refl (((w.alloc (.cells #[.int .i64 5, .int .i64 (ja : Int), .int .i64 (jb : Int), .int .i64 xn] 70)).alloc (.cells #[.int .u8 5] 5))).heap.size (((w.alloc (.cells #[.int .i64 5, .int .i64 (ja : Int), .int .i64 (jb : Int), .int .i64 xn] 70)).alloc (.cells #[.int .u8 5] 5)))) nq
      have OR := Hid.mk (OQ.out.kept bq)
      have S0 := bq.size
      simp only [World.size_alloc] at S0
      replace VX := VX.kept bq
      replace B := thenB B bq
      clear bq OQ
      generalize World.drewN ((w.alloc (.cells #[.int .i64 5, .int .i64 (ja : Int), .int .i64 (jb : Int), .int .i64 xn] 70)).alloc (.cells #[.int .u8 5] 5)) nq = wn at *
      obtain ⟨s_VX, f_VX, z_VX⟩ := VX.open
      go_wp2_with (first | (go_at_call 51; refine (CK.out _).mono ?_; rintro e wq ⟨rfl, rfl⟩) | fail)
      refine (CA.out _ (HA.out.kept B)).mono ?_
      rintro e waa ⟨cwa, dwa, rfl, Owa, bwa⟩
      clear s_VX f_VX z_VX
      replace OR := Hid.mk (OR.out.kept bwa)
      have Nwa := Hid.mk Owa.nocap
      have Rwa := Hid.mk Owa.rd
      have S_wa := bwa.size
      replace VX := VX.kept bwa
      replace B := thenB B bwa
      clear bwa Owa
      replace B := Hid.mk B
      replace VX := Hid.mk VX
      go_wp2_with (at_builtin; go_loud (refine wpList_put _ rfl _ _ 22 rfl (w.heap.size + 1) 5 i0 Tryz.underlying22 hi q0 q1 q2 _ _ 1 _ rfl OR.out rfl _ la _ _ rfl Rwa.out hla.out Nwa.out (1 + la) ([5] ++ TA.enc) (by omega) rfl (by omega) (by omega) ?_))
      intro cwab dwab wab Owab bwab
      skip
      clear OR
      replace VX := VX.out.keptB (by omega) bwab
      replace B := B.out.trans (bwab.mono (by omega))
      have S_wab : waa.heap.size ≤ wab.heap.size ∨ True := .inr trivial
      have OR := Hid.mk Owab
      clear bwab Owab
      have hsz : w.heap.size + 1 ≤ wab.heap.size := by have := OR.out.lt; have h1 := VX.1; have h2 := OR.out.some_of (by simp); obtain ⟨g4, rfl, h3⟩ := h2; have := (OR.out.lt _ rfl).2; simp only at this; omega
      obtain ⟨s_VX, f_VX, z_VX⟩ := VX.open
      go_wp2_with (first | (go_at_call 51; refine (CK.out _).mono ?_; rintro e wq ⟨rfl, rfl⟩) | fail)
      refine (CB.out _ (HA.out.kept B)).mono ?_
      rintro e wba ⟨cwb, dwb, rfl, Owb, bwb⟩
      clear s_VX f_VX z_VX
      replace OR := Hid.mk (OR.out.kept bwb)
      have Nwb := Hid.mk Owb.nocap
      have Rwb := Hid.mk Owb.rd
      have S_wb := bwb.size
      replace VX := VX.kept bwb
      replace B := thenB B bwb
      clear bwb Owb
      replace B := Hid.mk B
      replace VX := Hid.mk VX
      go_wp2_with (at_builtin; go_loud (refine wpList_put _ rfl _ _ 22 rfl (w.heap.size + 1) 5 i0 Tryz.underlying22 hi q0 q1 q2 _ _ (1 + la) _ rfl OR.out (by simp [hla.out]; omega) _ lb _ _ rfl Rwb.out hlb.out Nwb.out (1 + la + lb) (([5] ++ TA.enc) ++ TB.enc) (by omega) rfl (by omega) (by omega) ?_))
      intro cwbb dwbb wbb Owbb bwbb
      skip
      clear OR
      replace VX := VX.out.keptB (by omega) bwbb
      replace B := B.out.trans (bwbb.mono (by omega))
      have S_wbb : wba.heap.size ≤ wbb.heap.size ∨ True := .inr trivial
      have OR := Hid.mk Owbb
      clear bwbb Owbb
      obtain ⟨s_VX, f_VX, z_VX⟩ := VX.open
      go_wp2
      go_ret
      rw [HLEN.out, HENC.out]
      exact ⟨cwbb, dwbb, rfl, OR.out.mono (Nat.le_succ _), B⟩
    · skip
      obtain ⟨ja, rfl⟩ : ∃ j : Nat, xa = (j : Int) := ⟨xa.toNat, by omega⟩
      obtain ⟨jb, rfl⟩ : ∃ j : Nat, xb = (j : Int) := ⟨xb.toNat, by omega⟩
      simp only [Int.toNat_natCast] at hd
      have hja : ja < k := by omega
      have hjb : jb < k := by omega
      have hjan : (ja : Int) < (n : Int) := by omega
      have hjbn : (jb : Int) < (n : Int) := by omega
      obtain ⟨zA, hzA⟩ : ∃ z, xs.getD ja zTerm = z := ⟨_, rfl⟩
      obtain ⟨zB, hzB⟩ : ∃ z, xs.getD jb zTerm = z := ⟨_, rfl⟩
      unfold tmAt at hcm
      simp only [Int.toNat_natCast] at hcm
      rw [hzA, hzB] at hcm
      have CA := ih ja (by omega) (by omega)
      have CB := ih jb (by omega) (by omega)
      obtain ⟨TA, hTA⟩ : ∃ t, den xs ja = t := ⟨_, rfl⟩
      obtain ⟨TB, hTB⟩ : ∃ t, den xs jb = t := ⟨_, rfl⟩
      rw [hTA] at CA
      rw [hTB] at CB
      rw [hTA, hTB] at hd
      rw [hd] at hsz ⊢
      simp only [Tr.sz] at hsz
      have pA := TA.sz_in
      have pB := TB.sz_in
      have lA : (TA.enc.length : Int) ≤ 600 := by have := TA.enc_len (by omega); omega
      have lB : (TB.enc.length : Int) ≤ 600 := by have := TB.enc_len (by omega); omega
      replace CA := Hid.mk (CA (by omega))
      replace CB := Hid.mk (CB (by omega))
      obtain ⟨la, hla⟩ : ∃ l, TA.enc.length = l := ⟨_, rfl⟩
      obtain ⟨lb, hlb⟩ : ∃ l, TB.enc.length = l := ⟨_, rfl⟩
      have HENC : (Tr.two 7 TA TB).enc = ([7] ++ TA.enc) ++ TB.enc := by simp [Tr.enc]
      replace HENC := Hid.mk HENC
      have HLEN : (Tr.two 7 TA TB).enc.length = 1 + la + lb := by simp [Tr.enc, hla, hlb]; omega
      replace HLEN := Hid.mk HLEN
      rw [hla] at CA lA
      rw [hlb] at CB lB
      replace hla := Hid.mk hla
      replace hlb := Hid.mk hlb
      clear hd hTA hTB hca ih hsz pA pB
      have B := Below.refl w.heap.size w
      have CK := l5Kids_ok 7
      rw [show kids 7 = 2 by unfold kids; simp] at CK
      replace CK := Hid.mk CK
      replace B := thenB B (belowA w (.cells #[.int .i64 7, .int .i64 (ja : Int), .int .i64 (jb : Int), .int .i64 xn] 70))
      have VX := V.new w [.int .i64 7, .int .i64 (ja : Int), .int .i64 (jb : Int), .int .i64 xn] 70
      have OO := Own.lit (w.alloc (.cells #[.int .i64 7, .int .i64 (ja : Int), .int .i64 (jb : Int), .int .i64 xn] 70)) 5 [7] (by unfold maxLen; decide)
      simp only [World.size_alloc, List.length_cons, List.length_nil] at OO
      replace VX := VX.kept (belowA (w.alloc (.cells #[.int .i64 7, .int .i64 (ja : Int), .int .i64 (jb : Int), .int .i64 xn] 70)) (.cells #[.int .u8 7] 5))
      replace B := thenB B (belowA (w.alloc (.cells #[.int .i64 7, .int .i64 (ja : Int), .int .i64 (jb : Int), .int .i64 xn] 70)) (.cells #[.int .u8 7] 5))
      have OQ := Hid.mk OO
      clear OO
      rcases HA.out.kept B with h0 | ⟨b2, o2, e2, hca2⟩
      · rw [h0] at hn; simp at hn; omega
      simp only [Option.some.injEq, Addr.mk.injEq, and_true] at e2
      obtain ⟨rfl, rfl⟩ := e2
      obtain ⟨_, _, _, ra3⟩ := RdTerm.cells hca2 ja (by omega) zA hzA
      obtain ⟨_, _, _, rb3⟩ := RdTerm.cells hca2 jb (by omega) zB hzB
      clear hzA hzB hca2
      obtain ⟨s_VX, f_VX, z_VX⟩ := VX.open
      go_enter Tryz.func31, Tryz.ntmps31
      go_wp2_with (first | (go_at_call 51; refine (CK.out _).mono ?_; rintro e wq ⟨rfl, rfl⟩) | fail)
      go_quiet (fail)
      clear s_VX f_VX z_VX
      have bq := belowN (Below.refl (((w.alloc (.cells #[.int .i64 7, .int .i64 (ja : Int), .int .i64 (jb : Int), .int .i64 xn] 70)).alloc (.cells #[.int .u8 7] 5))).heap.size (((w.alloc (.cells #[.int .i64 7, .int .i64 (ja : Int), .int .i64 (jb : Int), .int .i64 xn] 70)).alloc (.cells #[.int .u8 7] 5)))) nq
      have OR := Hid.mk (OQ.out.kept bq)
      have S0 := bq.size
      simp only [World.size_alloc] at S0
      replace VX := VX.kept bq
      replace B := thenB B bq
      clear bq OQ
      generalize World.drewN ((w.alloc (.cells #[.int .i64 7, .int .i64 (ja : Int), .int .i64 (jb : Int), .int .i64 xn] 70)).alloc (.cells #[.int .u8 7] 5)) nq = wn at *
      obtain ⟨s_VX, f_VX, z_VX⟩ := VX.open
      go_wp2_with (first | (go_at_call 51; refine (CK.out _).mono ?_; rintro e wq ⟨rfl, rfl⟩) | fail)
      refine (CA.out _ (HA.out.kept B)).mono ?_
      rintro e waa ⟨cwa, dwa, rfl, Owa, bwa⟩
      clear s_VX f_VX z_VX
      replace OR := Hid.mk (OR.out.kept bwa)
      have Nwa := Hid.mk Owa.nocap
      have Rwa := Hid.mk Owa.rd
      have S_wa := bwa.size
      replace VX := VX.kept bwa
      replace B := thenB B bwa
      clear bwa Owa
      replace B := Hid.mk B
      replace VX := Hid.mk VX
      go_wp2_with (at_builtin; go_loud (refine wpList_put _ rfl _ _ 22 rfl (w.heap.size + 1) 5 i0 Tryz.underlying22 hi q0 q1 q2 _ _ 1 _ rfl OR.out rfl _ la _ _ rfl Rwa.out hla.out Nwa.out (1 + la) ([7] ++ TA.enc) (by omega) rfl (by omega) (by omega) ?_))
      intro cwab dwab wab Owab bwab
      skip
      clear OR
      replace VX := VX.out.keptB (by omega) bwab
      replace B := B.out.trans (bwab.mono (by omega))
      have S_wab : waa.heap.size ≤ wab.heap.size ∨ True := .inr trivial
      have OR := Hid.mk Owab
      clear bwab Owab
      have hsz : w.heap.size + 1 ≤ wab.heap.size := by have := OR.out.lt; have h1 := VX.1; have h2 := OR.out.some_of (by simp); obtain ⟨g4, rfl, h3⟩ := h2; have := (OR.out.lt _ rfl).2; simp only at this; omega
      obtain ⟨s_VX, f_VX, z_VX⟩ := VX.open
      go_wp2_with (first | (go_at_call 51; refine (CK.out _).mono ?_; rintro e wq ⟨rfl, rfl⟩) | fail)
      refine (CB.out _ (HA.out.kept B)).mono ?_
      rintro e wba ⟨cwb, dwb, rfl, Owb, bwb⟩
      clear s_VX f_VX z_VX
      replace OR := Hid.mk (OR.out.kept bwb)
      have Nwb := Hid.mk Owb.nocap
      have Rwb := Hid.mk Owb.rd
      have S_wb := bwb.size
      replace VX := VX.kept bwb
      replace B := thenB B bwb
      clear bwb Owb
      replace B := Hid.mk B
      replace VX := Hid.mk VX
      go_wp2_with (at_builtin; go_loud (refine wpList_put _ rfl _ _ 22 rfl (w.heap.size + 1) 5 i0 Tryz.underlying22 hi q0 q1 q2 _ _ (1 + la) _ rfl OR.out (by simp [hla.out]; omega) _ lb _ _ rfl Rwb.out hlb.out Nwb.out (1 + la + lb) (([7] ++ TA.enc) ++ TB.enc) (by omega) rfl (by omega) (by omega) ?_))
      intro cwbb dwbb wbb Owbb bwbb
      skip
      clear OR
      replace VX := VX.out.keptB (by omega) bwbb
      replace B := B.out.trans (bwbb.mono (by omega))
      have S_wbb : wba.heap.size ≤ wbb.heap.size ∨ True := .inr trivial
      have OR := Hid.mk Owbb
      clear bwbb Owbb
      obtain ⟨s_VX, f_VX, z_VX⟩ := VX.open
      go_wp2
      go_ret
      rw [HLEN.out, HENC.out]
      exact ⟨cwbb, dwbb, rfl, OR.out.mono (Nat.le_succ _), B⟩
    · skip
      obtain ⟨ja, rfl⟩ : ∃ j : Nat, xa = (j : Int) := ⟨xa.toNat, by omega⟩
      obtain ⟨jb, rfl⟩ : ∃ j : Nat, xb = (j : Int) := ⟨xb.toNat, by omega⟩
      simp only [Int.toNat_natCast] at hd
      have hja : ja < k := by omega
      have hjb : jb < k := by omega
      have hjan : (ja : Int) < (n : Int) := by omega
      have hjbn : (jb : Int) < (n : Int) := by omega
      obtain ⟨zA, hzA⟩ : ∃ z, xs.getD ja zTerm = z := ⟨_, rfl⟩
      obtain ⟨zB, hzB⟩ : ∃ z, xs.getD jb zTerm = z := ⟨_, rfl⟩
      unfold tmAt at hcm
      simp only [Int.toNat_natCast] at hcm
      rw [hzA, hzB] at hcm
      have CA := ih jb (by omega) (by omega)
      have CB := ih ja (by omega) (by omega)
      obtain ⟨TA, hTA⟩ : ∃ t, den xs jb = t := ⟨_, rfl⟩
      obtain ⟨TB, hTB⟩ : ∃ t, den xs ja = t := ⟨_, rfl⟩
      rw [hTA] at CA
      rw [hTB] at CB
      rw [hTA, hTB] at hd
      rw [hd] at hsz ⊢
      simp only [Tr.sz] at hsz
      have pA := TA.sz_in
      have pB := TB.sz_in
      have lA : (TA.enc.length : Int) ≤ 600 := by have := TA.enc_len (by omega); omega
      have lB : (TB.enc.length : Int) ≤ 600 := by have := TB.enc_len (by omega); omega
      replace CA := Hid.mk (CA (by omega))
      replace CB := Hid.mk (CB (by omega))
      obtain ⟨la, hla⟩ : ∃ l, TA.enc.length = l := ⟨_, rfl⟩
      obtain ⟨lb, hlb⟩ : ∃ l, TB.enc.length = l := ⟨_, rfl⟩
      have HENC : (Tr.two 7 TA TB).enc = ([7] ++ TA.enc) ++ TB.enc := by simp [Tr.enc]
      replace HENC := Hid.mk HENC
      have HLEN : (Tr.two 7 TA TB).enc.length = 1 + la + lb := by simp [Tr.enc, hla, hlb]; omega
      replace HLEN := Hid.mk HLEN
      rw [hla] at CA lA
      rw [hlb] at CB lB
      replace hla := Hid.mk hla
      replace hlb := Hid.mk hlb
      clear hd hTA hTB hca ih hsz pA pB
      have B := Below.refl w.heap.size w
      have CK := l5Kids_ok 7
      rw [show kids 7 = 2 by unfold kids; simp] at CK
      replace CK := Hid.mk CK
      replace B := thenB B (belowA w (.cells #[.int .i64 7, .int .i64 (ja : Int), .int .i64 (jb : Int), .int .i64 xn] 70))
      have VX := V.new w [.int .i64 7, .int .i64 (ja : Int), .int .i64 (jb : Int), .int .i64 xn] 70
      have OO := Own.lit (w.alloc (.cells #[.int .i64 7, .int .i64 (ja : Int), .int .i64 (jb : Int), .int .i64 xn] 70)) 5 [7] (by unfold maxLen; decide)
      simp only [World.size_alloc, List.length_cons, List.length_nil] at OO
      replace VX := VX.kept (belowA (w.alloc (.cells #[.int .i64 7, .int .i64 (ja : Int), .int .i64 (jb : Int), .int .i64 xn] 70)) (.cells #[.int .u8 7] 5))
      replace B := thenB B (belowA (w.alloc (.cells #[.int .i64 7, .int .i64 (ja : Int), .int .i64 (jb : Int), .int .i64 xn] 70)) (.cells #[.int .u8 7] 5))
      have OQ := Hid.mk OO
      clear OO
      rcases HA.out.kept B with h0 | ⟨b2, o2, e2, hca2⟩
      · rw [h0] at hn; simp at hn; omega
      simp only [Option.some.injEq, Addr.mk.injEq, and_true] at e2
      obtain ⟨rfl, rfl⟩ := e2
      obtain ⟨_, _, _, ra3⟩ := RdTerm.cells hca2 ja (by omega) zA hzA
      obtain ⟨_, _, _, rb3⟩ := RdTerm.cells hca2 jb (by omega) zB hzB
      clear hzA hzB hca2
      obtain ⟨s_VX, f_VX, z_VX⟩ := VX.open
      go_enter Tryz.func31, Tryz.ntmps31
      go_wp2_with (first | (go_at_call 51; refine (CK.out _).mono ?_; rintro e wq ⟨rfl, rfl⟩) | fail)
      go_quiet (fail)
      clear s_VX f_VX z_VX
      have bq := belowN (Below.refl (((w.alloc (.cells #[.int .i64 7, .int .i64 (ja : Int), .int .i64 (jb : Int), .int .i64 xn] 70)).alloc (.cells #[.int .u8 7] 5))).heap.size (((w.alloc (.cells #[.int .i64 7, .int .i64 (ja : Int), .int .i64 (jb : Int), .int .i64 xn] 70)).alloc (.cells #[.int .u8 7] 5)))) nq
      have OR := Hid.mk (OQ.out.kept bq)
      have S0 := bq.size
      simp only [World.size_alloc] at S0
      replace VX := VX.kept bq
      replace B := thenB B bq
      clear bq OQ
      generalize World.drewN ((w.alloc (.cells #[.int .i64 7, .int .i64 (ja : Int), .int .i64 (jb : Int), .int .i64 xn] 70)).alloc (.cells #[.int .u8 7] 5)) nq = wn at *
      obtain ⟨s_VX, f_VX, z_VX⟩ := VX.open
      go_wp2_with (first | (go_at_call 51; refine (CK.out _).mono ?_; rintro e wq ⟨rfl, rfl⟩) | fail)
      refine (CA.out _ (HA.out.kept B)).mono ?_
      rintro e waa ⟨cwa, dwa, rfl, Owa, bwa⟩
      clear s_VX f_VX z_VX
      replace OR := Hid.mk (OR.out.kept bwa)
      have Nwa := Hid.mk Owa.nocap
      have Rwa := Hid.mk Owa.rd
      have S_wa := bwa.size
      replace VX := VX.kept bwa
      replace B := thenB B bwa
      clear bwa Owa
      replace B := Hid.mk B
      replace VX := Hid.mk VX
      go_wp2_with (at_builtin; go_loud (refine wpList_put _ rfl _ _ 22 rfl (w.heap.size + 1) 5 i0 Tryz.underlying22 hi q0 q1 q2 _ _ 1 _ rfl OR.out rfl _ la _ _ rfl Rwa.out hla.out Nwa.out (1 + la) ([7] ++ TA.enc) (by omega) rfl (by omega) (by omega) ?_))
      intro cwab dwab wab Owab bwab
      skip
      clear OR
      replace VX := VX.out.keptB (by omega) bwab
      replace B := B.out.trans (bwab.mono (by omega))
      have S_wab : waa.heap.size ≤ wab.heap.size ∨ True := .inr trivial
      have OR := Hid.mk Owab
      clear bwab Owab
      have hsz : w.heap.size + 1 ≤ wab.heap.size := by have := OR.out.lt; have h1 := VX.1; have h2 := OR.out.some_of (by simp); obtain ⟨g4, rfl, h3⟩ := h2; have := (OR.out.lt _ rfl).2; simp only at this; omega
      obtain ⟨s_VX, f_VX, z_VX⟩ := VX.open
      go_wp2_with (first | (go_at_call 51; refine (CK.out _).mono ?_; rintro e wq ⟨rfl, rfl⟩) | fail)
      refine (CB.out _ (HA.out.kept B)).mono ?_
      rintro e wba ⟨cwb, dwb, rfl, Owb, bwb⟩
      clear s_VX f_VX z_VX
      replace OR := Hid.mk (OR.out.kept bwb)
      have Nwb := Hid.mk Owb.nocap
      have Rwb := Hid.mk Owb.rd
      have S_wb := bwb.size
      replace VX := VX.kept bwb
      replace B := thenB B bwb
      clear bwb Owb
      replace B := Hid.mk B
      replace VX := Hid.mk VX
      go_wp2_with (at_builtin; go_loud (refine wpList_put _ rfl _ _ 22 rfl (w.heap.size + 1) 5 i0 Tryz.underlying22 hi q0 q1 q2 _ _ (1 + la) _ rfl OR.out (by simp [hla.out]; omega) _ lb _ _ rfl Rwb.out hlb.out Nwb.out (1 + la + lb) (([7] ++ TA.enc) ++ TB.enc) (by omega) rfl (by omega) (by omega) ?_))
      intro cwbb dwbb wbb Owbb bwbb
      skip
      clear OR
      replace VX := VX.out.keptB (by omega) bwbb
      replace B := B.out.trans (bwbb.mono (by omega))
      have S_wbb : wba.heap.size ≤ wbb.heap.size ∨ True := .inr trivial
      have OR := Hid.mk Owbb
      clear bwbb Owbb
      obtain ⟨s_VX, f_VX, z_VX⟩ := VX.open
      go_wp2
      go_ret
      rw [HLEN.out, HENC.out]
      exact ⟨cwbb, dwbb, rfl, OR.out.mono (Nat.le_succ _), B⟩

end Go.Proofs.YtfldgeokigcokaaGreat

/- EncodeTerm: the model. -/
namespace Go.Proofs.YtfldgeokigcokaaGreat
open Go.RowKit

theorem Own.apart8 {w : World} {base : Nat} {a : Option Addr} {cap : Nat} {zs : List Int} {B : Nat} (h : Own .u8 5 w base a cap zs) (hB : ∀ b : Addr, a = some b → b.block ≠ B) (o : Nat) (vs : List Value) : Own .u8 5 (w.setCells B o vs) base a cap zs :=
  h.sm (X := fun k => k = B) (Sm.cells (X := fun k => k = B) (B := B) rfl o vs) (fun b hb e => hB b hb e)

theorem build_brc (c : Int) (w : World) : (Instr.build 31 #[(0, .int .i64 c)]).run Tryz.prog w = .ok (.agg #[.int .i64 c, .slice none 0 0]) w := run_build w 31 _ _ (by kernel_rfl)
theorem build_brv (c : Option Addr) (n d : Nat) (w : World) : (Instr.build 31 #[(1, .slice c n d)]).run Tryz.prog w = .ok (.agg #[.int .i64 0, .slice c n d]) w := run_build w 31 _ _ (by kernel_rfl)

set_option maxRecDepth 20000 in
set_option maxHeartbeats 8000000 in
theorem specEncodeTerm_ok (a : Option Addr) (n ca : Nat) (xs : List T4) (q : Int) (w : World) (ha : RdTerm w a xs) (hn : xs.length = n) (hx : n ≤ maxLen) (hca : n ≤ ca) :
    Calls Tryz.prog 10 #[.slice a n ca, .int .i64 q] w fun e w' => ∃ c d, e = .returned (.agg #[.int .i64 (enC xs q), .slice c (enB xs q).length d]) ∧ Own .u8 5 w' w.heap.size c d (enB xs q) ∧ Below w.heap.size w w' := by
  have q1 := build_brc
  have q2 := build_brv
  have CA := Hid.mk (fun w h => l5Asked_ok a n ca xs q w h hn hx hca)
  have HW := en_ways xs q
  by_cases h1 : akC xs q = 0
  case neg =>
    rcases HW with ⟨_, e1, e2⟩ | ⟨h, _⟩ | ⟨h, _⟩ | ⟨h, _⟩
    · rw [e1, e2]
      have h2 : (akC xs q != 0) = true := by simp [h1]
      clear h1 e1 e2
      generalize akC xs q = kk at *
      go_enter Tryz.func10, Tryz.ntmps10
      have B := Below.refl w.heap.size w
      replace ha := ha.kept (belowA w (.cells #[.int .i64 0, .slice none 0 0] 31))
      replace B := thenB B (belowA w (.cells #[.int .i64 0, .slice none 0 0] 31))
      have VR := V.new w [.int .i64 0, .slice none 0 0] 31
      obtain ⟨s_VR, f_VR, z_VR⟩ := VR.open
      have Bo := B
      go_wp2_with fail
      refine (CA.out _ ha).mono ?_
      rintro e w1 ⟨rfl, b1⟩
      clear s_VR f_VR z_VR
      have S1 := b1.size
      simp only [World.size_alloc] at S1
      replace VR := VR.kept b1
      replace ha := ha.kept b1
      replace B := thenB B b1
      clear b1
      obtain ⟨s_VR, f_VR, z_VR⟩ := VR.open
      have Bo := B
      clear s_VR f_VR z_VR
      have VF := Hid.mk (VR.filled [.int .i64 kk, .slice none 0 0] rfl)
      have HT := Hid.mk VR.there
      have BR := belowCells B (show w.heap.size ≤ w.heap.size by (first | omega | (simp; done) | (simp; omega))) 0 [.int .i64 kk, .slice none 0 0]
      replace BR := Hid.mk BR
      obtain ⟨s_VR, f_VR, z_VR⟩ := VR.open
      go_wp2_with (refine wpList_store_mid rfl 31 _ _ rfl (w.heap.size) 0 #[.int .i64 kk, .slice none 0 0] rfl rfl HT.out (by kernel_rfl) (by kernel_rfl) ?_)
      refine bodyPost_ret (v := .agg #[.int .i64 kk, .slice none 0 0]) (results_row Tryz.results10 _ _ (w.heap.size) [.int .i64 kk, .slice none 0 0] _ rfl VF.out Tryz.underlying31 rfl (by kernel_rfl)) rfl ⟨none, 0, rfl, own_none, BR.out⟩
    all_goals exact absurd h h1
  obtain ⟨hv, hq0, hq1⟩ := ak_zero h1
  rw [h1] at CA
  obtain ⟨m, rfl⟩ : ∃ m : Nat, q = (m : Int) := ⟨q.toNat, by omega⟩
  rw [Int.toNat_natCast] at HW
  have CD := Hid.mk (fun w h => l7Depths_ok a n ca xs w h hn hv)
  have CS := Hid.mk (fun w h => l5Sizes_ok a n ca xs w h hn hv)
  have CE := l7Encode_ok a n ca xs hn hv m (by omega)
  have hzm := dpL_at xs n m (by omega)
  have hzl := Hid.mk (dpL_len xs n)
  have hsm := szL_at xs n m (by omega)
  have hsl := Hid.mk (szL_len xs n)
  have hel := (den xs m).enc_len
  have hm1 : (m : Int) < (n : Int) := by omega
  obtain ⟨T, hT⟩ : ∃ T, den xs m = T := ⟨_, rfl⟩
  rw [hT] at HW CE hzm hsm hel
  obtain ⟨D, hD⟩ : ∃ D, T.dp = D := ⟨_, rfl⟩
  obtain ⟨S, hS⟩ : ∃ S, T.sz = S := ⟨_, rfl⟩
  obtain ⟨l, hl⟩ : ∃ l, T.enc.length = l := ⟨_, rfl⟩
  rw [hD, hS, hl] at HW
  rw [hD] at hzm
  rw [hS] at hsm hel CE
  rw [hl] at hel CE
  replace hzm := Hid.mk hzm
  replace hsm := Hid.mk hsm
  have hll := Hid.mk hl
  clear hT hD hS hl hq0 hq1 hv
  rcases HW with ⟨h, _⟩ | ⟨_, h2, e1, e2⟩ | ⟨_, h2, h3, h4, e1, e2⟩ | ⟨_, h2, h3, h4, e1, e2⟩
  · exact absurd h1 h
  · rw [e1, e2]
    clear h1 e1 e2 CE hel
    by_cases h3 : 30 < D
    · clear h2 CS hsm hsl
      go_enter Tryz.func10, Tryz.ntmps10
      have B := Below.refl w.heap.size w
      replace ha := ha.kept (belowA w (.cells #[.int .i64 0, .slice none 0 0] 31))
      replace B := thenB B (belowA w (.cells #[.int .i64 0, .slice none 0 0] 31))
      have VR := V.new w [.int .i64 0, .slice none 0 0] 31
      obtain ⟨s_VR, f_VR, z_VR⟩ := VR.open
      have Bo := B
      go_wp2_with fail
      refine (CA.out _ ha).mono ?_
      rintro e w21 ⟨rfl, b21⟩
      clear s_VR f_VR z_VR
      have S21 := b21.size
      simp only [World.size_alloc] at S21
      replace VR := VR.kept b21
      replace ha := ha.kept b21
      replace B := thenB B b21
      clear b21
      obtain ⟨s_VR, f_VR, z_VR⟩ := VR.open
      have Bo := B
      go_wp2_with fail
      refine (CD.out _ ha).mono ?_
      rintro e w22 ⟨c, d, rfl, O, b22⟩
      clear s_VR f_VR z_VR
      have S22 := b22.size
      replace VR := VR.kept b22
      replace ha := ha.kept b22
      replace B := thenB B b22
      clear b22
      obtain ⟨s_VR, f_VR, z_VR⟩ := VR.open
      have Bo := B
      rcases O.rd with h0 | ⟨b1, o1, rfl, hca2⟩
      · have := hzl.out; rw [h0] at this; simp at this; omega
      have p0 := hca2 m (by have := hzl.out; omega)
      rw [hzm.out] at p0
      clear hca2 O
      clear s_VR f_VR z_VR
      have VF := Hid.mk (VR.filled [.int .i64 2, .slice none 0 0] rfl)
      have HT := Hid.mk VR.there
      have BR := belowCells B (show w.heap.size ≤ w.heap.size by (first | omega | (simp; done) | (simp; omega))) 0 [.int .i64 2, .slice none 0 0]
      replace BR := Hid.mk BR
      obtain ⟨s_VR, f_VR, z_VR⟩ := VR.open
      go_wp2_with (refine wpList_store_mid rfl 31 _ _ rfl (w.heap.size) 0 #[.int .i64 2, .slice none 0 0] rfl rfl HT.out (by kernel_rfl) (by kernel_rfl) ?_)
      refine bodyPost_ret (v := .agg #[.int .i64 2, .slice none 0 0]) (results_row Tryz.results10 _ _ (w.heap.size) [.int .i64 2, .slice none 0 0] _ rfl VF.out Tryz.underlying31 rfl (by kernel_rfl)) rfl ⟨none, 0, rfl, own_none, BR.out⟩
    · have h4 : 200 < S := by omega
      have h5 : D ≤ 30 := by omega
      clear h2 h3
      go_enter Tryz.func10, Tryz.ntmps10
      have B := Below.refl w.heap.size w
      replace ha := ha.kept (belowA w (.cells #[.int .i64 0, .slice none 0 0] 31))
      replace B := thenB B (belowA w (.cells #[.int .i64 0, .slice none 0 0] 31))
      have VR := V.new w [.int .i64 0, .slice none 0 0] 31
      obtain ⟨s_VR, f_VR, z_VR⟩ := VR.open
      have Bo := B
      go_wp2_with fail
      refine (CA.out _ ha).mono ?_
      rintro e w41 ⟨rfl, b41⟩
      clear s_VR f_VR z_VR
      have S41 := b41.size
      simp only [World.size_alloc] at S41
      replace VR := VR.kept b41
      replace ha := ha.kept b41
      replace B := thenB B b41
      clear b41
      obtain ⟨s_VR, f_VR, z_VR⟩ := VR.open
      have Bo := B
      go_wp2_with fail
      refine (CD.out _ ha).mono ?_
      rintro e w42 ⟨c, d, rfl, O, b42⟩
      clear s_VR f_VR z_VR
      have S42 := b42.size
      replace VR := VR.kept b42
      replace ha := ha.kept b42
      replace B := thenB B b42
      clear b42
      obtain ⟨s_VR, f_VR, z_VR⟩ := VR.open
      have Bo := B
      rcases O.rd with h0 | ⟨b1, o1, rfl, hca2⟩
      · have := hzl.out; rw [h0] at this; simp at this; omega
      have p0 := hca2 m (by have := hzl.out; omega)
      rw [hzm.out] at p0
      clear hca2 O
      go_wp2_with fail
      refine (CS.out _ ha).mono ?_
      rintro e w43 ⟨c2, d2, rfl, O2, b43⟩
      clear s_VR f_VR z_VR
      have S43 := b43.size
      replace VR := VR.kept b43
      replace ha := ha.kept b43
      replace B := thenB B b43
      clear b43
      obtain ⟨s_VR, f_VR, z_VR⟩ := VR.open
      have Bo := B
      rcases O2.rd with h0 | ⟨b2, o2, rfl, hca3⟩
      · have := hsl.out; rw [h0] at this; simp at this; omega
      have p1 := hca3 m (by have := hsl.out; omega)
      rw [hsm.out] at p1
      clear hca3 O2
      clear s_VR f_VR z_VR
      have VF := Hid.mk (VR.filled [.int .i64 2, .slice none 0 0] rfl)
      have HT := Hid.mk VR.there
      have BR := belowCells B (show w.heap.size ≤ w.heap.size by (first | omega | (simp; done) | (simp; omega))) 0 [.int .i64 2, .slice none 0 0]
      replace BR := Hid.mk BR
      obtain ⟨s_VR, f_VR, z_VR⟩ := VR.open
      go_wp2_with (refine wpList_store_mid rfl 31 _ _ rfl (w.heap.size) 0 #[.int .i64 2, .slice none 0 0] rfl rfl HT.out (by kernel_rfl) (by kernel_rfl) ?_)
      refine bodyPost_ret (v := .agg #[.int .i64 2, .slice none 0 0]) (results_row Tryz.results10 _ _ (w.heap.size) [.int .i64 2, .slice none 0 0] _ rfl VF.out Tryz.underlying31 rfl (by kernel_rfl)) rfl ⟨none, 0, rfl, own_none, BR.out⟩
  · rw [e1, e2]
    have hl4 : (l : Int) > 400 := by omega
    replace CE := Hid.mk (CE (by omega))
    clear h1 e1 e2
    go_enter Tryz.func10, Tryz.ntmps10
    have B := Below.refl w.heap.size w
    replace ha := ha.kept (belowA w (.cells #[.int .i64 0, .slice none 0 0] 31))
    replace B := thenB B (belowA w (.cells #[.int .i64 0, .slice none 0 0] 31))
    have VR := V.new w [.int .i64 0, .slice none 0 0] 31
    obtain ⟨s_VR, f_VR, z_VR⟩ := VR.open
    have Bo := B
    go_wp2_with fail
    refine (CA.out _ ha).mono ?_
    rintro e w41 ⟨rfl, b41⟩
    clear s_VR f_VR z_VR
    have S41 := b41.size
    simp only [World.size_alloc] at S41
    replace VR := VR.kept b41
    replace ha := ha.kept b41
    replace B := thenB B b41
    clear b41
    obtain ⟨s_VR, f_VR, z_VR⟩ := VR.open
    have Bo := B
    go_wp2_with fail
    refine (CD.out _ ha).mono ?_
    rintro e w42 ⟨c, d, rfl, O, b42⟩
    clear s_VR f_VR z_VR
    have S42 := b42.size
    replace VR := VR.kept b42
    replace ha := ha.kept b42
    replace B := thenB B b42
    clear b42
    obtain ⟨s_VR, f_VR, z_VR⟩ := VR.open
    have Bo := B
    rcases O.rd with h0 | ⟨b1, o1, rfl, hca2⟩
    · have := hzl.out; rw [h0] at this; simp at this; omega
    have p0 := hca2 m (by have := hzl.out; omega)
    rw [hzm.out] at p0
    clear hca2 O
    go_wp2_with fail
    refine (CS.out _ ha).mono ?_
    rintro e w43 ⟨c2, d2, rfl, O2, b43⟩
    clear s_VR f_VR z_VR
    have S43 := b43.size
    replace VR := VR.kept b43
    replace ha := ha.kept b43
    replace B := thenB B b43
    clear b43
    obtain ⟨s_VR, f_VR, z_VR⟩ := VR.open
    have Bo := B
    rcases O2.rd with h0 | ⟨b2, o2, rfl, hca3⟩
    · have := hsl.out; rw [h0] at this; simp at this; omega
    have p1 := hca3 m (by have := hsl.out; omega)
    rw [hsm.out] at p1
    clear hca3 O2
    go_wp2_with fail
    refine (CE.out _ ha).mono ?_
    rintro e w44 ⟨c3, d3, rfl, O, b44⟩
    clear s_VR f_VR z_VR
    have S44 := b44.size
    replace VR := VR.kept b44
    replace ha := ha.kept b44
    replace B := thenB B b44
    clear b44
    obtain ⟨s_VR, f_VR, z_VR⟩ := VR.open
    have Bo := B
    clear s_VR f_VR z_VR
    have VF := Hid.mk (VR.filled [.int .i64 2, .slice none 0 0] rfl)
    have HT := Hid.mk VR.there
    have BR := belowCells B (show w.heap.size ≤ w.heap.size by (first | omega | (simp; done) | (simp; omega))) 0 [.int .i64 2, .slice none 0 0]
    replace BR := Hid.mk BR
    obtain ⟨s_VR, f_VR, z_VR⟩ := VR.open
    go_wp2_with (refine wpList_store_mid rfl 31 _ _ rfl (w.heap.size) 0 #[.int .i64 2, .slice none 0 0] rfl rfl HT.out (by kernel_rfl) (by kernel_rfl) ?_)
    refine bodyPost_ret (v := .agg #[.int .i64 2, .slice none 0 0]) (results_row Tryz.results10 _ _ (w.heap.size) [.int .i64 2, .slice none 0 0] _ rfl VF.out Tryz.underlying31 rfl (by kernel_rfl)) rfl ⟨none, 0, rfl, own_none, BR.out⟩
  · rw [e1, e2]
    have hl4 : (l : Int) ≤ 400 := by omega
    replace CE := Hid.mk (CE (by omega))
    clear h1 e1 e2
    go_enter Tryz.func10, Tryz.ntmps10
    have B := Below.refl w.heap.size w
    replace ha := ha.kept (belowA w (.cells #[.int .i64 0, .slice none 0 0] 31))
    replace B := thenB B (belowA w (.cells #[.int .i64 0, .slice none 0 0] 31))
    have VR := V.new w [.int .i64 0, .slice none 0 0] 31
    obtain ⟨s_VR, f_VR, z_VR⟩ := VR.open
    have Bo := B
    go_wp2_with fail
    refine (CA.out _ ha).mono ?_
    rintro e w41 ⟨rfl, b41⟩
    clear s_VR f_VR z_VR
    have S41 := b41.size
    simp only [World.size_alloc] at S41
    replace VR := VR.kept b41
    replace ha := ha.kept b41
    replace B := thenB B b41
    clear b41
    obtain ⟨s_VR, f_VR, z_VR⟩ := VR.open
    have Bo := B
    go_wp2_with fail
    refine (CD.out _ ha).mono ?_
    rintro e w42 ⟨c, d, rfl, O, b42⟩
    clear s_VR f_VR z_VR
    have S42 := b42.size
    replace VR := VR.kept b42
    replace ha := ha.kept b42
    replace B := thenB B b42
    clear b42
    obtain ⟨s_VR, f_VR, z_VR⟩ := VR.open
    have Bo := B
    rcases O.rd with h0 | ⟨b1, o1, rfl, hca2⟩
    · have := hzl.out; rw [h0] at this; simp at this; omega
    have p0 := hca2 m (by have := hzl.out; omega)
    rw [hzm.out] at p0
    clear hca2 O
    go_wp2_with fail
    refine (CS.out _ ha).mono ?_
    rintro e w43 ⟨c2, d2, rfl, O2, b43⟩
    clear s_VR f_VR z_VR
    have S43 := b43.size
    replace VR := VR.kept b43
    replace ha := ha.kept b43
    replace B := thenB B b43
    clear b43
    obtain ⟨s_VR, f_VR, z_VR⟩ := VR.open
    have Bo := B
    rcases O2.rd with h0 | ⟨b2, o2, rfl, hca3⟩
    · have := hsl.out; rw [h0] at this; simp at this; omega
    have p1 := hca3 m (by have := hsl.out; omega)
    rw [hsm.out] at p1
    clear hca3 O2
    go_wp2_with fail
    refine (CE.out _ ha).mono ?_
    rintro e w44 ⟨c3, d3, rfl, O, b44⟩
    clear s_VR f_VR z_VR
    have S44 := b44.size
    replace VR := VR.kept b44
    replace ha := ha.kept b44
    replace B := thenB B b44
    clear b44
    obtain ⟨s_VR, f_VR, z_VR⟩ := VR.open
    have Bo := B
    have OL := Hid.mk (fun b hb => (O.lt b hb).1)
    clear s_VR f_VR z_VR
    have VF := Hid.mk (VR.filled [.int .i64 0, .slice c3 l d3] rfl)
    have HT := Hid.mk VR.there
    have BR := belowCells B (show w.heap.size ≤ w.heap.size by (first | omega | (simp; done) | (simp; omega))) 0 [.int .i64 0, .slice c3 l d3]
    replace BR := Hid.mk BR
    have HO := Hid.mk ((O.mono (show w.heap.size ≤ _ by first | omega | (simp; done) | (simp; omega))).apart8 (B := w.heap.size) (by intro b hb; have := OL.out b hb; first | omega | (simp at this; omega)) 0 [.int .i64 0, .slice c3 l d3])
    obtain ⟨s_VR, f_VR, z_VR⟩ := VR.open
    go_wp2_with (refine wpList_store_mid rfl 31 _ _ rfl (w.heap.size) 0 #[.int .i64 0, .slice c3 l d3] rfl rfl HT.out (by kernel_rfl) (by kernel_rfl) ?_)
    refine bodyPost_ret (v := .agg #[.int .i64 0, .slice c3 l d3]) (results_row Tryz.results10 _ _ (w.heap.size) [.int .i64 0, .slice c3 l d3] _ rfl VF.out Tryz.underlying31 rfl (by kernel_rfl)) rfl ⟨c3, d3, by rw [hll.out], HO.out, BR.out⟩

end Go.Proofs.YtfldgeokigcokaaGreat

/- Reading a term's bytes: the model, leaves. -/
namespace Go.Proofs.YtfldgeokigcokaaGreat
open Go.RowKit

theorem results_row_n {fn : Func} {t s : Tmp} {ty : TypeId} (h : fn.results = #[.cell t ty, .tmp s]) (tmps : Array Value) (w : World) (B : Nat) (vs : List Value) (d : TypeDesc) (v : Value) (ht : tmps.getD t undef = .pointer (some ⟨B, 0, none⟩)) (hv : V w B vs)
    (hu : Tryz.prog.underlying ty = some d) (hd : d.isRow = true) (hi : (Tryz.prog.info? ty).map (·.size) = some vs.length) (hs : tmps.getD s undef = v) : (results fn tmps).run Tryz.prog w = .ok (.tuple #[.agg vs.toArray, v]) w := by
  have hl := run_loadVar_mid (P := Tryz.prog) w B 0 ty vs d (fun j v hj => by rw [Nat.zero_add, hv.2.1 j (List.getElem?_eq_some_iff.1 hj).1]; exact hj) hu hd hi
  have ht2 : tmps[t]?.getD undef = Value.pointer (some ⟨B, 0, none⟩) := by simpa using ht
  have hs2 : tmps[s]?.getD undef = v := by simpa using hs
  simp [results, h, ht2, hs2, asAddr, hl]

theorem build_tm1 (o : Int) (w : World) : (Instr.build 70 #[(0, .int .i64 o)]).run Tryz.prog w = .ok (.agg #[.int .i64 o, .int .i64 0, .int .i64 0, .int .i64 0]) w := run_build w 70 _ _ (by kernel_rfl)

theorem build_tr_ (w : World) : (Instr.build 28 #[]).run Tryz.prog w = .ok (.agg #[.int .i64 0, .int .i64 0, .slice none 0 0]) w := run_build w 28 _ _ (by kernel_rfl)

/-- What a reading answers. -/
def Reads (w : World) (D : Go.Proofs.YtfldgeokigcokaaGreat.Put × Int) : Ending → World → Prop := fun e w' => ∃ c d, e = .returned (.tuple #[.agg #[.int .i64 D.1.c, .int .i64 D.1.k, .slice c D.1.l.length d], .int .i64 D.2]) ∧ OwnTerm w' w.heap.size c d D.1.l ∧ Below w.heap.size w w'

set_option maxRecDepth 20000 in
set_option maxHeartbeats 16000000 in
theorem l7Decode_low (b : Option Addr) (m cb : Nat) (k : Nat) (a : Option Addr) (n ca : Nat) (w : World) (dp : Int) (hdp : -1000 ≤ dp ∧ dp ≤ 31) (hk : m ≤ k ∨ dp = 31) :
    Calls Tryz.prog 24 #[.slice a n ca, .slice b m cb, .int .i64 (k : Int), .int .i64 dp] w (Reads w (⟨0, 0, []⟩, -1)) := by
  have q1 := build_tr_
  unfold Reads
  by_cases h1 : m ≤ k
  · have hkm : (m : Int) ≤ (k : Int) := by omega
    have CI := Hid.mk (l1In_ok 1 1 7)
    have CK := CI
    go_enter Tryz.func24, Tryz.ntmps24
    have B := Below.refl w.heap.size w
    replace B := thenB B (belowA w (.cells #[.int .i64 0, .int .i64 0, .slice none 0 0] 28))
    have VR := V.new w [.int .i64 0, .int .i64 0, .slice none 0 0] 28
    obtain ⟨s_VR, f_VR, z_VR⟩ := VR.open
    have Bo := B
    clear s_VR f_VR z_VR
    have VF := Hid.mk (VR.filled [.int .i64 0, .int .i64 0, .slice none 0 0] rfl)
    have HT := Hid.mk VR.there
    have BR := belowCells B (show w.heap.size ≤ w.heap.size by (first | omega | (simp; done) | (simp; omega))) 0 [.int .i64 0, .int .i64 0, .slice none 0 0]
    replace BR := Hid.mk BR
    obtain ⟨s_VR, f_VR, z_VR⟩ := VR.open
    go_wp2_with (first | (go_at_call 50; refine (CI.out _).mono ?_; rintro e wq ⟨rfl, rfl⟩) | (go_at_call 51; refine (CK.out _).mono ?_; rintro e wq ⟨rfl, rfl⟩) | (refine wpList_store_mid rfl 28 _ _ rfl (w.heap.size) 0 #[.int .i64 0, .int .i64 0, .slice none 0 0] rfl rfl HT.out (by kernel_rfl) (by kernel_rfl) ?_))
    refine bodyPost_ret (v := .tuple #[.agg #[.int .i64 0, .int .i64 0, .slice none 0 0], .int .i64 (-1)]) (results_row_n Tryz.results24 _ _ (w.heap.size) [.int .i64 0, .int .i64 0, .slice none 0 0] _ _ rfl VF.out Tryz.underlying28 rfl (by kernel_rfl) rfl) rfl ⟨none, 0, rfl, OwnTerm.none, BR.out⟩
  · have hkm : (k : Int) < (m : Int) := by omega
    obtain rfl : dp = 31 := by omega
    have CI := Hid.mk (l1In_ok 1 1 7)
    have CK := CI
    go_enter Tryz.func24, Tryz.ntmps24
    have B := Below.refl w.heap.size w
    replace B := thenB B (belowA w (.cells #[.int .i64 0, .int .i64 0, .slice none 0 0] 28))
    have VR := V.new w [.int .i64 0, .int .i64 0, .slice none 0 0] 28
    obtain ⟨s_VR, f_VR, z_VR⟩ := VR.open
    have Bo := B
    clear s_VR f_VR z_VR
    have VF := Hid.mk (VR.filled [.int .i64 0, .int .i64 0, .slice none 0 0] rfl)
    have HT := Hid.mk VR.there
    have BR := belowCells B (show w.heap.size ≤ w.heap.size by (first | omega | (simp; done) | (simp; omega))) 0 [.int .i64 0, .int .i64 0, .slice none 0 0]
    replace BR := Hid.mk BR
    obtain ⟨s_VR, f_VR, z_VR⟩ := VR.open
    go_wp2_with (first | (go_at_call 50; refine (CI.out _).mono ?_; rintro e wq ⟨rfl, rfl⟩) | (go_at_call 51; refine (CK.out _).mono ?_; rintro e wq ⟨rfl, rfl⟩) | (refine wpList_store_mid rfl 28 _ _ rfl (w.heap.size) 0 #[.int .i64 0, .int .i64 0, .slice none 0 0] rfl rfl HT.out (by kernel_rfl) (by kernel_rfl) ?_))
    refine bodyPost_ret (v := .tuple #[.agg #[.int .i64 0, .int .i64 0, .slice none 0 0], .int .i64 (-1)]) (results_row_n Tryz.results24 _ _ (w.heap.size) [.int .i64 0, .int .i64 0, .slice none 0 0] _ _ rfl VF.out Tryz.underlying28 rfl (by kernel_rfl) rfl) rfl ⟨none, 0, rfl, OwnTerm.none, BR.out⟩

set_option maxRecDepth 20000 in
set_option maxHeartbeats 16000000 in
theorem l7Decode_noop (b2 o2 m cb : Nat) (ds : List Int) (hb : Bytes ds) (hm : ds.length = m) (hm4 : m ≤ 400) (k : Nat) (a : Option Addr) (n ca : Nat) (xs : List T4) (w : World) (ha : RdTerm w a xs) (hn : xs.length = n) (hx : n ≤ 1000) (hca : a = none → ca = 0) (hr : Rd .u8 w (some ⟨b2, o2, none⟩) ds) (dp : Int) (hdp : -1000 ≤ dp ∧ dp ≤ 30) (hk : k < m) (o : Int) (ho : ds.getD k 0 = o) (hob : btw o 1 7 = false) :
    Calls Tryz.prog 24 #[.slice a n ca, .slice (some ⟨b2, o2, none⟩) m cb, .int .i64 (k : Int), .int .i64 dp] w (Reads w (⟨0, 0, []⟩, -1)) := by
  have q1 := build_tr_
  have q2 := build_tm1
  obtain ⟨hd0, hd1⟩ := hdp
  unfold Reads
  have hkm : (k : Int) < (m : Int) := by omega
  have g1 : decide (m ≤ k) = false := by simp; omega
  have g2 : decide (30 < dp) = false := by simp; omega
  have HA := Hid.mk ha
  have HR := Hid.mk hr
  have _u := And.intro hb (And.intro hm4 (And.intro hx (And.intro hn hca)))
  have rk : (w.alloc (.cells #[.int .i64 0, .int .i64 0, .slice none 0 0] 28)).cell? ⟨b2, o2 + k, none⟩ = some (.int .u8 o) := by
    rcases hr.kept (belowA w (.cells #[.int .i64 0, .int .i64 0, .slice none 0 0] 28)) with h0 | ⟨b3, o3, e3, h3⟩
    · rw [h0] at hm; simp at hm; omega
    · simp only [Option.some.injEq, Addr.mk.injEq, and_true] at e3
      obtain ⟨rfl, rfl⟩ := e3
      rw [h3 k (by omega), ho]
  have hbo : 0 ≤ o ∧ o < 256 := by
    rw [← ho]; exact hb _ (by simp [List.getD, show k < ds.length by omega])
  obtain ⟨hb0, hb1⟩ := hbo
  have CI := l1In_ok o 1 7
  rw [hob] at CI
  replace CI := Hid.mk CI
  have CK := CI
  go_enter Tryz.func24, Tryz.ntmps24
  have B := Below.refl w.heap.size w
  replace B := thenB B (belowA w (.cells #[.int .i64 0, .int .i64 0, .slice none 0 0] 28))
  have VR := V.new w [.int .i64 0, .int .i64 0, .slice none 0 0] 28
  obtain ⟨s_VR, f_VR, z_VR⟩ := VR.open
  have Bo := B
  clear s_VR f_VR z_VR
  have VF := Hid.mk (VR.filled [.int .i64 0, .int .i64 0, .slice none 0 0] rfl)
  have HT := Hid.mk VR.there
  have BR := belowCells B (show w.heap.size ≤ w.heap.size by (first | omega | (simp; done) | (simp; omega))) 0 [.int .i64 0, .int .i64 0, .slice none 0 0]
  replace BR := Hid.mk BR
  obtain ⟨s_VR, f_VR, z_VR⟩ := VR.open
  go_wp2_with (first | (go_at_call 50; refine (CI.out _).mono ?_; rintro e wq ⟨rfl, rfl⟩) | (go_at_call 51; refine (CK.out _).mono ?_; rintro e wq ⟨rfl, rfl⟩) | (refine wpList_store_mid rfl 28 _ _ rfl (w.heap.size) 0 #[.int .i64 0, .int .i64 0, .slice none 0 0] rfl rfl HT.out (by kernel_rfl) (by kernel_rfl) ?_))
  refine bodyPost_ret (v := .tuple #[.agg #[.int .i64 0, .int .i64 0, .slice none 0 0], .int .i64 (-1)]) (results_row_n Tryz.results24 _ _ (w.heap.size) [.int .i64 0, .int .i64 0, .slice none 0 0] _ _ rfl VF.out Tryz.underlying28 rfl (by kernel_rfl) rfl) rfl ⟨none, 0, rfl, OwnTerm.none, BR.out⟩

set_option maxRecDepth 20000 in
set_option maxHeartbeats 16000000 in
theorem l7Decode_leaf1cut (b2 o2 m cb : Nat) (ds : List Int) (hb : Bytes ds) (hm : ds.length = m) (hm4 : m ≤ 400) (k : Nat) (a : Option Addr) (n ca : Nat) (xs : List T4) (w : World) (ha : RdTerm w a xs) (hn : xs.length = n) (hx : n ≤ 1000) (hca : a = none → ca = 0) (hr : Rd .u8 w (some ⟨b2, o2, none⟩) ds) (dp : Int) (hdp : -1000 ≤ dp ∧ dp ≤ 30) (hk : k < m) (ho : ds.getD k 0 = 1) (hc : m < k + 3) :
    Calls Tryz.prog 24 #[.slice a n ca, .slice (some ⟨b2, o2, none⟩) m cb, .int .i64 (k : Int), .int .i64 dp] w (Reads w (⟨0, 0, []⟩, -1)) := by
  have q1 := build_tr_
  have q2 := build_tm1
  obtain ⟨hd0, hd1⟩ := hdp
  unfold Reads
  have hkm : (k : Int) < (m : Int) := by omega
  have g1 : decide (m ≤ k) = false := by simp; omega
  have g2 : decide (30 < dp) = false := by simp; omega
  have HA := Hid.mk ha
  have HR := Hid.mk hr
  have _u := And.intro hb (And.intro hm4 (And.intro hx (And.intro hn hca)))
  have rk : (w.alloc (.cells #[.int .i64 0, .int .i64 0, .slice none 0 0] 28)).cell? ⟨b2, o2 + k, none⟩ = some (.int .u8 1) := by
    rcases hr.kept (belowA w (.cells #[.int .i64 0, .int .i64 0, .slice none 0 0] 28)) with h0 | ⟨b3, o3, e3, h3⟩
    · rw [h0] at hm; simp at hm; omega
    · simp only [Option.some.injEq, Addr.mk.injEq, and_true] at e3
      obtain ⟨rfl, rfl⟩ := e3
      rw [h3 k (by omega), ho]
  have hc1 : (m : Int) < (k : Int) + 3 := by omega
  have CI := l1In_ok 1 1 7
  rw [show btw 1 1 7 = true from btw_iff.2 (by omega)] at CI
  replace CI := Hid.mk CI
  have CK := l5Kids_ok 1
  rw [show kids 1 = 0 by unfold kids; simp] at CK
  replace CK := Hid.mk CK
  go_enter Tryz.func24, Tryz.ntmps24
  have B := Below.refl w.heap.size w
  replace B := thenB B (belowA w (.cells #[.int .i64 0, .int .i64 0, .slice none 0 0] 28))
  have VR := V.new w [.int .i64 0, .int .i64 0, .slice none 0 0] 28
  replace VR := VR.kept (belowA (w.alloc (.cells #[.int .i64 0, .int .i64 0, .slice none 0 0] 28)) (.cells #[.int .i64 1, .int .i64 0, .int .i64 0, .int .i64 0] 70))
  replace B := thenB B (belowA (w.alloc (.cells #[.int .i64 0, .int .i64 0, .slice none 0 0] 28)) (.cells #[.int .i64 1, .int .i64 0, .int .i64 0, .int .i64 0] 70))
  have VT : V ((w.alloc (.cells #[.int .i64 0, .int .i64 0, .slice none 0 0] 28)).alloc (.cells #[.int .i64 1, .int .i64 0, .int .i64 0, .int .i64 0] 70)) (w.heap.size + 1) [.int .i64 1, .int .i64 0, .int .i64 0, .int .i64 0] := V.newAt _ _ _ _ (by simp)
  obtain ⟨s_VR, f_VR, z_VR⟩ := VR.open
  obtain ⟨s_VT, f_VT, z_VT⟩ := VT.open
  have Bo := B
  clear s_VR f_VR z_VR s_VT f_VT z_VT
  have VF := Hid.mk (VR.filled [.int .i64 0, .int .i64 0, .slice none 0 0] rfl)
  have HT := Hid.mk VR.there
  have BR := belowCells B (show w.heap.size ≤ w.heap.size by (first | omega | (simp; done) | (simp; omega))) 0 [.int .i64 0, .int .i64 0, .slice none 0 0]
  replace BR := Hid.mk BR
  obtain ⟨s_VR, f_VR, z_VR⟩ := VR.open
  obtain ⟨s_VT, f_VT, z_VT⟩ := VT.open
  go_wp2_with (first | (go_at_call 50; refine (CI.out _).mono ?_; rintro e wq ⟨rfl, rfl⟩) | (go_at_call 51; refine (CK.out _).mono ?_; rintro e wq ⟨rfl, rfl⟩) | (refine wpList_store_mid rfl 28 _ _ rfl (w.heap.size) 0 #[.int .i64 0, .int .i64 0, .slice none 0 0] rfl rfl HT.out (by kernel_rfl) (by kernel_rfl) ?_))
  refine bodyPost_ret (v := .tuple #[.agg #[.int .i64 0, .int .i64 0, .slice none 0 0], .int .i64 (-1)]) (results_row_n Tryz.results24 _ _ (w.heap.size) [.int .i64 0, .int .i64 0, .slice none 0 0] _ _ rfl VF.out Tryz.underlying28 rfl (by kernel_rfl) rfl) rfl ⟨none, 0, rfl, OwnTerm.none, BR.out⟩

set_option maxRecDepth 20000 in
set_option maxHeartbeats 16000000 in
theorem l7Decode_leaf1big (b2 o2 m cb : Nat) (ds : List Int) (hb : Bytes ds) (hm : ds.length = m) (hm4 : m ≤ 400) (k : Nat) (a : Option Addr) (n ca : Nat) (xs : List T4) (w : World) (ha : RdTerm w a xs) (hn : xs.length = n) (hx : n ≤ 1000) (hca : a = none → ca = 0) (hr : Rd .u8 w (some ⟨b2, o2, none⟩) ds) (dp : Int) (hdp : -1000 ≤ dp ∧ dp ≤ 30) (hk : k < m) (ho : ds.getD k 0 = 1) (nn : Int) (hnn : takeN ds (k + 1) 2 = nn) (hc : k + 3 ≤ m) (hc9 : 9999 < nn) :
    Calls Tryz.prog 24 #[.slice a n ca, .slice (some ⟨b2, o2, none⟩) m cb, .int .i64 (k : Int), .int .i64 dp] w (Reads w (⟨0, 0, []⟩, -1)) := by
  have q1 := build_tr_
  have q2 := build_tm1
  obtain ⟨hd0, hd1⟩ := hdp
  unfold Reads
  have hkm : (k : Int) < (m : Int) := by omega
  have g1 : decide (m ≤ k) = false := by simp; omega
  have g2 : decide (30 < dp) = false := by simp; omega
  have HA := Hid.mk ha
  have HR := Hid.mk hr
  have _u := And.intro hb (And.intro hm4 (And.intro hx (And.intro hn hca)))
  have rk : (w.alloc (.cells #[.int .i64 0, .int .i64 0, .slice none 0 0] 28)).cell? ⟨b2, o2 + k, none⟩ = some (.int .u8 1) := by
    rcases hr.kept (belowA w (.cells #[.int .i64 0, .int .i64 0, .slice none 0 0] 28)) with h0 | ⟨b3, o3, e3, h3⟩
    · rw [h0] at hm; simp at hm; omega
    · simp only [Option.some.injEq, Addr.mk.injEq, and_true] at e3
      obtain ⟨rfl, rfl⟩ := e3
      rw [h3 k (by omega), ho]
  have hc1 : (k : Int) + 3 ≤ (m : Int) := by omega
  have CT := fun w h => l1Take_ok (some ⟨b2, o2, none⟩) m cb (k + 1) 2 ds w h hb hm (by unfold maxLen; omega) (by omega) (by omega)
  rw [hnn] at CT
  simp only [Int.natCast_add, Int.natCast_one] at CT
  replace CT := Hid.mk CT
  have CI := l1In_ok 1 1 7
  rw [show btw 1 1 7 = true from btw_iff.2 (by omega)] at CI
  replace CI := Hid.mk CI
  have CK := l5Kids_ok 1
  rw [show kids 1 = 0 by unfold kids; simp] at CK
  replace CK := Hid.mk CK
  go_enter Tryz.func24, Tryz.ntmps24
  have B := Below.refl w.heap.size w
  replace B := thenB B (belowA w (.cells #[.int .i64 0, .int .i64 0, .slice none 0 0] 28))
  have VR := V.new w [.int .i64 0, .int .i64 0, .slice none 0 0] 28
  replace VR := VR.kept (belowA (w.alloc (.cells #[.int .i64 0, .int .i64 0, .slice none 0 0] 28)) (.cells #[.int .i64 1, .int .i64 0, .int .i64 0, .int .i64 0] 70))
  replace B := thenB B (belowA (w.alloc (.cells #[.int .i64 0, .int .i64 0, .slice none 0 0] 28)) (.cells #[.int .i64 1, .int .i64 0, .int .i64 0, .int .i64 0] 70))
  have VT : V ((w.alloc (.cells #[.int .i64 0, .int .i64 0, .slice none 0 0] 28)).alloc (.cells #[.int .i64 1, .int .i64 0, .int .i64 0, .int .i64 0] 70)) (w.heap.size + 1) [.int .i64 1, .int .i64 0, .int .i64 0, .int .i64 0] := V.newAt _ _ _ _ (by simp)
  obtain ⟨s_VR, f_VR, z_VR⟩ := VR.open
  obtain ⟨s_VT, f_VT, z_VT⟩ := VT.open
  have Bo := B
  go_wp2_with (first | (go_at_call 50; refine (CI.out _).mono ?_; rintro e wq ⟨rfl, rfl⟩) | (go_at_call 51; refine (CK.out _).mono ?_; rintro e wq ⟨rfl, rfl⟩) | fail)
  refine (CT.out _ (HR.out.kept B)).mono ?_
  rintro e w11 ⟨rfl, b11⟩
  clear s_VR f_VR z_VR s_VT f_VT z_VT
  have S11 := b11.size
  simp only [World.size_alloc] at S11
  replace VR := VR.kept b11
  replace VT := VT.kept b11
  replace B := thenB B b11
  clear b11
  obtain ⟨s_VR, f_VR, z_VR⟩ := VR.open
  obtain ⟨s_VT, f_VT, z_VT⟩ := VT.open
  have Bo := B
  replace VR := VR.other (p := ⟨w.heap.size + 1, 3, none⟩) (by (try simp); (try omega)) (.int .i64 nn)
  replace VT := VT.set (i := 3) (by simp) (.int .i64 nn)
  simp only [List.set_cons_zero, List.set_cons_succ] at VT
  replace B := B.setCell (p := ⟨w.heap.size + 1, 3, none⟩) (by (try simp); (try omega)) (.int .i64 nn)
  go_upto_region 8 with fail
  clear s_VR f_VR z_VR s_VT f_VT z_VT
  obtain ⟨s_VR, f_VR, z_VR⟩ := VR.open
  obtain ⟨s_VT, f_VT, z_VT⟩ := VT.open
  have Bo := B
  clear s_VR f_VR z_VR s_VT f_VT z_VT
  have VF := Hid.mk (VR.filled [.int .i64 0, .int .i64 0, .slice none 0 0] rfl)
  have HT := Hid.mk VR.there
  have BR := belowCells B (show w.heap.size ≤ w.heap.size by (first | omega | (simp; done) | (simp; omega))) 0 [.int .i64 0, .int .i64 0, .slice none 0 0]
  replace BR := Hid.mk BR
  obtain ⟨s_VR, f_VR, z_VR⟩ := VR.open
  obtain ⟨s_VT, f_VT, z_VT⟩ := VT.open
  go_wp2_with (first | (go_at_call 50; refine (CI.out _).mono ?_; rintro e wq ⟨rfl, rfl⟩) | (go_at_call 51; refine (CK.out _).mono ?_; rintro e wq ⟨rfl, rfl⟩) | (refine wpList_store_mid rfl 28 _ _ rfl (w.heap.size) 0 #[.int .i64 0, .int .i64 0, .slice none 0 0] rfl rfl HT.out (by kernel_rfl) (by kernel_rfl) ?_))
  refine bodyPost_ret (v := .tuple #[.agg #[.int .i64 0, .int .i64 0, .slice none 0 0], .int .i64 (-1)]) (results_row_n Tryz.results24 _ _ (w.heap.size) [.int .i64 0, .int .i64 0, .slice none 0 0] _ _ rfl VF.out Tryz.underlying28 rfl (by kernel_rfl) rfl) rfl ⟨none, 0, rfl, OwnTerm.none, BR.out⟩

set_option maxRecDepth 20000 in
set_option maxHeartbeats 16000000 in
theorem l7Decode_leaf1put (b2 o2 m cb : Nat) (ds : List Int) (hb : Bytes ds) (hm : ds.length = m) (hm4 : m ≤ 400) (k : Nat) (a : Option Addr) (n ca : Nat) (xs : List T4) (w : World) (ha : RdTerm w a xs) (hn : xs.length = n) (hx : n ≤ 1000) (hca : a = none → ca = 0) (hr : Rd .u8 w (some ⟨b2, o2, none⟩) ds) (dp : Int) (hdp : -1000 ≤ dp ∧ dp ≤ 30) (hk : k < m) (ho : ds.getD k 0 = 1) (nn : Int) (hnn : takeN ds (k + 1) 2 = nn) (hc : k + 3 ≤ m) (hc0 : 0 ≤ nn) (hc9 : nn ≤ 9999) :
    Calls Tryz.prog 24 #[.slice a n ca, .slice (some ⟨b2, o2, none⟩) m cb, .int .i64 (k : Int), .int .i64 dp] w (Reads w (put xs ⟨1, 0, 0, nn⟩, (k : Int) + 3)) := by
  have q1 := build_tr_
  have q2 := build_tm1
  obtain ⟨hd0, hd1⟩ := hdp
  unfold Reads
  have hkm : (k : Int) < (m : Int) := by omega
  have g1 : decide (m ≤ k) = false := by simp; omega
  have g2 : decide (30 < dp) = false := by simp; omega
  have HA := Hid.mk ha
  have HR := Hid.mk hr
  have _u := And.intro hb (And.intro hm4 (And.intro hx (And.intro hn hca)))
  have rk : (w.alloc (.cells #[.int .i64 0, .int .i64 0, .slice none 0 0] 28)).cell? ⟨b2, o2 + k, none⟩ = some (.int .u8 1) := by
    rcases hr.kept (belowA w (.cells #[.int .i64 0, .int .i64 0, .slice none 0 0] 28)) with h0 | ⟨b3, o3, e3, h3⟩
    · rw [h0] at hm; simp at hm; omega
    · simp only [Option.some.injEq, Addr.mk.injEq, and_true] at e3
      obtain ⟨rfl, rfl⟩ := e3
      rw [h3 k (by omega), ho]
  have hc1 : (k : Int) + 3 ≤ (m : Int) := by omega
  have CT := fun w h => l1Take_ok (some ⟨b2, o2, none⟩) m cb (k + 1) 2 ds w h hb hm (by unfold maxLen; omega) (by omega) (by omega)
  rw [hnn] at CT
  simp only [Int.natCast_add, Int.natCast_one] at CT
  replace CT := Hid.mk CT
  have CP := fun w h => l5Put_ok a n ca xs ⟨1, 0, 0, nn⟩ w h hn (by omega) hca
  generalize put xs ⟨1, 0, 0, nn⟩ = P at *
  obtain ⟨pc, pk, pl⟩ := P
  simp only at CP ⊢
  obtain ⟨ll, hll⟩ : ∃ l, pl.length = l := ⟨_, rfl⟩
  rw [hll] at CP ⊢
  replace CP := Hid.mk CP
  have CI := l1In_ok 1 1 7
  rw [show btw 1 1 7 = true from btw_iff.2 (by omega)] at CI
  replace CI := Hid.mk CI
  have CK := l5Kids_ok 1
  rw [show kids 1 = 0 by unfold kids; simp] at CK
  replace CK := Hid.mk CK
  go_enter Tryz.func24, Tryz.ntmps24
  have B := Below.refl w.heap.size w
  replace B := thenB B (belowA w (.cells #[.int .i64 0, .int .i64 0, .slice none 0 0] 28))
  have VR := V.new w [.int .i64 0, .int .i64 0, .slice none 0 0] 28
  replace VR := VR.kept (belowA (w.alloc (.cells #[.int .i64 0, .int .i64 0, .slice none 0 0] 28)) (.cells #[.int .i64 1, .int .i64 0, .int .i64 0, .int .i64 0] 70))
  replace B := thenB B (belowA (w.alloc (.cells #[.int .i64 0, .int .i64 0, .slice none 0 0] 28)) (.cells #[.int .i64 1, .int .i64 0, .int .i64 0, .int .i64 0] 70))
  have VT : V ((w.alloc (.cells #[.int .i64 0, .int .i64 0, .slice none 0 0] 28)).alloc (.cells #[.int .i64 1, .int .i64 0, .int .i64 0, .int .i64 0] 70)) (w.heap.size + 1) [.int .i64 1, .int .i64 0, .int .i64 0, .int .i64 0] := V.newAt _ _ _ _ (by simp)
  obtain ⟨s_VR, f_VR, z_VR⟩ := VR.open
  obtain ⟨s_VT, f_VT, z_VT⟩ := VT.open
  have Bo := B
  go_wp2_with (first | (go_at_call 50; refine (CI.out _).mono ?_; rintro e wq ⟨rfl, rfl⟩) | (go_at_call 51; refine (CK.out _).mono ?_; rintro e wq ⟨rfl, rfl⟩) | fail)
  refine (CT.out _ (HR.out.kept B)).mono ?_
  rintro e w11 ⟨rfl, b11⟩
  clear s_VR f_VR z_VR s_VT f_VT z_VT
  have S11 := b11.size
  simp only [World.size_alloc] at S11
  replace VR := VR.kept b11
  replace VT := VT.kept b11
  replace B := thenB B b11
  clear b11
  obtain ⟨s_VR, f_VR, z_VR⟩ := VR.open
  obtain ⟨s_VT, f_VT, z_VT⟩ := VT.open
  have Bo := B
  replace VR := VR.other (p := ⟨w.heap.size + 1, 3, none⟩) (by (try simp); (try omega)) (.int .i64 nn)
  replace VT := VT.set (i := 3) (by simp) (.int .i64 nn)
  simp only [List.set_cons_zero, List.set_cons_succ] at VT
  replace B := B.setCell (p := ⟨w.heap.size + 1, 3, none⟩) (by (try simp); (try omega)) (.int .i64 nn)
  go_upto_region 8 with fail
  clear s_VR f_VR z_VR s_VT f_VT z_VT
  obtain ⟨s_VR, f_VR, z_VR⟩ := VR.open
  obtain ⟨s_VT, f_VT, z_VT⟩ := VT.open
  have Bo := B
  go_wp2_with (first | (go_at_call 50; refine (CI.out _).mono ?_; rintro e wq ⟨rfl, rfl⟩) | (go_at_call 51; refine (CK.out _).mono ?_; rintro e wq ⟨rfl, rfl⟩) | fail)
  refine (CP.out _ (HA.out.kept B)).mono ?_
  rintro e w12 ⟨c, d, rfl, O, b12⟩
  clear s_VR f_VR z_VR s_VT f_VT z_VT
  have S12 := b12.size
  simp only [World.size_setCell] at S12
  replace VR := VR.kept b12
  replace VT := VT.kept b12
  replace B := thenB B b12
  clear b12
  obtain ⟨s_VR, f_VR, z_VR⟩ := VR.open
  obtain ⟨s_VT, f_VT, z_VT⟩ := VT.open
  have Bo := B
  have OL := Hid.mk (fun b hb => (O.lt b hb).1)
  clear s_VR f_VR z_VR s_VT f_VT z_VT
  have VF := Hid.mk (VR.filled [.int .i64 pc, .int .i64 pk, .slice c ll d] rfl)
  have HT := Hid.mk VR.there
  have BR := belowCells B (show w.heap.size ≤ w.heap.size by (first | omega | (simp; done) | (simp; omega))) 0 [.int .i64 pc, .int .i64 pk, .slice c ll d]
  replace BR := Hid.mk BR
  have HO := Hid.mk ((O.mono (show w.heap.size ≤ _ by first | omega | (simp; done) | (simp; omega))).apart (B := w.heap.size) (by intro b hb; have := OL.out b hb; first | omega | (simp at this; omega)) 0 [.int .i64 pc, .int .i64 pk, .slice c ll d])
  obtain ⟨s_VR, f_VR, z_VR⟩ := VR.open
  obtain ⟨s_VT, f_VT, z_VT⟩ := VT.open
  go_wp2_with (first | (go_at_call 50; refine (CI.out _).mono ?_; rintro e wq ⟨rfl, rfl⟩) | (go_at_call 51; refine (CK.out _).mono ?_; rintro e wq ⟨rfl, rfl⟩) | (refine wpList_store_mid rfl 28 _ _ rfl (w.heap.size) 0 #[.int .i64 pc, .int .i64 pk, .slice c ll d] rfl rfl HT.out (by kernel_rfl) (by kernel_rfl) ?_))
  refine bodyPost_ret (v := .tuple #[.agg #[.int .i64 pc, .int .i64 pk, .slice c ll d], .int .i64 ((k : Int) + 3)]) (results_row_n Tryz.results24 _ _ (w.heap.size) [.int .i64 pc, .int .i64 pk, .slice c ll d] _ _ rfl VF.out Tryz.underlying28 rfl (by kernel_rfl) rfl) rfl ⟨c, d, rfl, HO.out, BR.out⟩

set_option maxRecDepth 20000 in
set_option maxHeartbeats 16000000 in
theorem l7Decode_leaf2cut (b2 o2 m cb : Nat) (ds : List Int) (hb : Bytes ds) (hm : ds.length = m) (hm4 : m ≤ 400) (k : Nat) (a : Option Addr) (n ca : Nat) (xs : List T4) (w : World) (ha : RdTerm w a xs) (hn : xs.length = n) (hx : n ≤ 1000) (hca : a = none → ca = 0) (hr : Rd .u8 w (some ⟨b2, o2, none⟩) ds) (dp : Int) (hdp : -1000 ≤ dp ∧ dp ≤ 30) (hk : k < m) (ho : ds.getD k 0 = 2) (hc : m < k + 3) :
    Calls Tryz.prog 24 #[.slice a n ca, .slice (some ⟨b2, o2, none⟩) m cb, .int .i64 (k : Int), .int .i64 dp] w (Reads w (⟨0, 0, []⟩, -1)) := by
  have q1 := build_tr_
  have q2 := build_tm1
  obtain ⟨hd0, hd1⟩ := hdp
  unfold Reads
  have hkm : (k : Int) < (m : Int) := by omega
  have g1 : decide (m ≤ k) = false := by simp; omega
  have g2 : decide (30 < dp) = false := by simp; omega
  have HA := Hid.mk ha
  have HR := Hid.mk hr
  have _u := And.intro hb (And.intro hm4 (And.intro hx (And.intro hn hca)))
  have rk : (w.alloc (.cells #[.int .i64 0, .int .i64 0, .slice none 0 0] 28)).cell? ⟨b2, o2 + k, none⟩ = some (.int .u8 2) := by
    rcases hr.kept (belowA w (.cells #[.int .i64 0, .int .i64 0, .slice none 0 0] 28)) with h0 | ⟨b3, o3, e3, h3⟩
    · rw [h0] at hm; simp at hm; omega
    · simp only [Option.some.injEq, Addr.mk.injEq, and_true] at e3
      obtain ⟨rfl, rfl⟩ := e3
      rw [h3 k (by omega), ho]
  have hc1 : (m : Int) < (k : Int) + 3 := by omega
  have CI := l1In_ok 2 1 7
  rw [show btw 2 1 7 = true from btw_iff.2 (by omega)] at CI
  replace CI := Hid.mk CI
  have CK := l5Kids_ok 2
  rw [show kids 2 = 0 by unfold kids; simp] at CK
  replace CK := Hid.mk CK
  go_enter Tryz.func24, Tryz.ntmps24
  have B := Below.refl w.heap.size w
  replace B := thenB B (belowA w (.cells #[.int .i64 0, .int .i64 0, .slice none 0 0] 28))
  have VR := V.new w [.int .i64 0, .int .i64 0, .slice none 0 0] 28
  replace VR := VR.kept (belowA (w.alloc (.cells #[.int .i64 0, .int .i64 0, .slice none 0 0] 28)) (.cells #[.int .i64 2, .int .i64 0, .int .i64 0, .int .i64 0] 70))
  replace B := thenB B (belowA (w.alloc (.cells #[.int .i64 0, .int .i64 0, .slice none 0 0] 28)) (.cells #[.int .i64 2, .int .i64 0, .int .i64 0, .int .i64 0] 70))
  have VT : V ((w.alloc (.cells #[.int .i64 0, .int .i64 0, .slice none 0 0] 28)).alloc (.cells #[.int .i64 2, .int .i64 0, .int .i64 0, .int .i64 0] 70)) (w.heap.size + 1) [.int .i64 2, .int .i64 0, .int .i64 0, .int .i64 0] := V.newAt _ _ _ _ (by simp)
  obtain ⟨s_VR, f_VR, z_VR⟩ := VR.open
  obtain ⟨s_VT, f_VT, z_VT⟩ := VT.open
  have Bo := B
  clear s_VR f_VR z_VR s_VT f_VT z_VT
  have VF := Hid.mk (VR.filled [.int .i64 0, .int .i64 0, .slice none 0 0] rfl)
  have HT := Hid.mk VR.there
  have BR := belowCells B (show w.heap.size ≤ w.heap.size by (first | omega | (simp; done) | (simp; omega))) 0 [.int .i64 0, .int .i64 0, .slice none 0 0]
  replace BR := Hid.mk BR
  obtain ⟨s_VR, f_VR, z_VR⟩ := VR.open
  obtain ⟨s_VT, f_VT, z_VT⟩ := VT.open
  go_wp2_with (first | (go_at_call 50; refine (CI.out _).mono ?_; rintro e wq ⟨rfl, rfl⟩) | (go_at_call 51; refine (CK.out _).mono ?_; rintro e wq ⟨rfl, rfl⟩) | (refine wpList_store_mid rfl 28 _ _ rfl (w.heap.size) 0 #[.int .i64 0, .int .i64 0, .slice none 0 0] rfl rfl HT.out (by kernel_rfl) (by kernel_rfl) ?_))
  refine bodyPost_ret (v := .tuple #[.agg #[.int .i64 0, .int .i64 0, .slice none 0 0], .int .i64 (-1)]) (results_row_n Tryz.results24 _ _ (w.heap.size) [.int .i64 0, .int .i64 0, .slice none 0 0] _ _ rfl VF.out Tryz.underlying28 rfl (by kernel_rfl) rfl) rfl ⟨none, 0, rfl, OwnTerm.none, BR.out⟩

set_option maxRecDepth 20000 in
set_option maxHeartbeats 16000000 in
theorem l7Decode_leaf2big (b2 o2 m cb : Nat) (ds : List Int) (hb : Bytes ds) (hm : ds.length = m) (hm4 : m ≤ 400) (k : Nat) (a : Option Addr) (n ca : Nat) (xs : List T4) (w : World) (ha : RdTerm w a xs) (hn : xs.length = n) (hx : n ≤ 1000) (hca : a = none → ca = 0) (hr : Rd .u8 w (some ⟨b2, o2, none⟩) ds) (dp : Int) (hdp : -1000 ≤ dp ∧ dp ≤ 30) (hk : k < m) (ho : ds.getD k 0 = 2) (nn : Int) (hnn : takeN ds (k + 1) 2 = nn) (hc : k + 3 ≤ m) (hc9 : 9999 < nn) :
    Calls Tryz.prog 24 #[.slice a n ca, .slice (some ⟨b2, o2, none⟩) m cb, .int .i64 (k : Int), .int .i64 dp] w (Reads w (⟨0, 0, []⟩, -1)) := by
  have q1 := build_tr_
  have q2 := build_tm1
  obtain ⟨hd0, hd1⟩ := hdp
  unfold Reads
  have hkm : (k : Int) < (m : Int) := by omega
  have g1 : decide (m ≤ k) = false := by simp; omega
  have g2 : decide (30 < dp) = false := by simp; omega
  have HA := Hid.mk ha
  have HR := Hid.mk hr
  have _u := And.intro hb (And.intro hm4 (And.intro hx (And.intro hn hca)))
  have rk : (w.alloc (.cells #[.int .i64 0, .int .i64 0, .slice none 0 0] 28)).cell? ⟨b2, o2 + k, none⟩ = some (.int .u8 2) := by
    rcases hr.kept (belowA w (.cells #[.int .i64 0, .int .i64 0, .slice none 0 0] 28)) with h0 | ⟨b3, o3, e3, h3⟩
    · rw [h0] at hm; simp at hm; omega
    · simp only [Option.some.injEq, Addr.mk.injEq, and_true] at e3
      obtain ⟨rfl, rfl⟩ := e3
      rw [h3 k (by omega), ho]
  have hc1 : (k : Int) + 3 ≤ (m : Int) := by omega
  have CT := fun w h => l1Take_ok (some ⟨b2, o2, none⟩) m cb (k + 1) 2 ds w h hb hm (by unfold maxLen; omega) (by omega) (by omega)
  rw [hnn] at CT
  simp only [Int.natCast_add, Int.natCast_one] at CT
  replace CT := Hid.mk CT
  have CI := l1In_ok 2 1 7
  rw [show btw 2 1 7 = true from btw_iff.2 (by omega)] at CI
  replace CI := Hid.mk CI
  have CK := l5Kids_ok 2
  rw [show kids 2 = 0 by unfold kids; simp] at CK
  replace CK := Hid.mk CK
  go_enter Tryz.func24, Tryz.ntmps24
  have B := Below.refl w.heap.size w
  replace B := thenB B (belowA w (.cells #[.int .i64 0, .int .i64 0, .slice none 0 0] 28))
  have VR := V.new w [.int .i64 0, .int .i64 0, .slice none 0 0] 28
  replace VR := VR.kept (belowA (w.alloc (.cells #[.int .i64 0, .int .i64 0, .slice none 0 0] 28)) (.cells #[.int .i64 2, .int .i64 0, .int .i64 0, .int .i64 0] 70))
  replace B := thenB B (belowA (w.alloc (.cells #[.int .i64 0, .int .i64 0, .slice none 0 0] 28)) (.cells #[.int .i64 2, .int .i64 0, .int .i64 0, .int .i64 0] 70))
  have VT : V ((w.alloc (.cells #[.int .i64 0, .int .i64 0, .slice none 0 0] 28)).alloc (.cells #[.int .i64 2, .int .i64 0, .int .i64 0, .int .i64 0] 70)) (w.heap.size + 1) [.int .i64 2, .int .i64 0, .int .i64 0, .int .i64 0] := V.newAt _ _ _ _ (by simp)
  obtain ⟨s_VR, f_VR, z_VR⟩ := VR.open
  obtain ⟨s_VT, f_VT, z_VT⟩ := VT.open
  have Bo := B
  go_wp2_with (first | (go_at_call 50; refine (CI.out _).mono ?_; rintro e wq ⟨rfl, rfl⟩) | (go_at_call 51; refine (CK.out _).mono ?_; rintro e wq ⟨rfl, rfl⟩) | fail)
  refine (CT.out _ (HR.out.kept B)).mono ?_
  rintro e w11 ⟨rfl, b11⟩
  clear s_VR f_VR z_VR s_VT f_VT z_VT
  have S11 := b11.size
  simp only [World.size_alloc] at S11
  replace VR := VR.kept b11
  replace VT := VT.kept b11
  replace B := thenB B b11
  clear b11
  obtain ⟨s_VR, f_VR, z_VR⟩ := VR.open
  obtain ⟨s_VT, f_VT, z_VT⟩ := VT.open
  have Bo := B
  replace VR := VR.other (p := ⟨w.heap.size + 1, 3, none⟩) (by (try simp); (try omega)) (.int .i64 nn)
  replace VT := VT.set (i := 3) (by simp) (.int .i64 nn)
  simp only [List.set_cons_zero, List.set_cons_succ] at VT
  replace B := B.setCell (p := ⟨w.heap.size + 1, 3, none⟩) (by (try simp); (try omega)) (.int .i64 nn)
  go_upto_region 8 with fail
  clear s_VR f_VR z_VR s_VT f_VT z_VT
  obtain ⟨s_VR, f_VR, z_VR⟩ := VR.open
  obtain ⟨s_VT, f_VT, z_VT⟩ := VT.open
  have Bo := B
  clear s_VR f_VR z_VR s_VT f_VT z_VT
  have VF := Hid.mk (VR.filled [.int .i64 0, .int .i64 0, .slice none 0 0] rfl)
  have HT := Hid.mk VR.there
  have BR := belowCells B (show w.heap.size ≤ w.heap.size by (first | omega | (simp; done) | (simp; omega))) 0 [.int .i64 0, .int .i64 0, .slice none 0 0]
  replace BR := Hid.mk BR
  obtain ⟨s_VR, f_VR, z_VR⟩ := VR.open
  obtain ⟨s_VT, f_VT, z_VT⟩ := VT.open
  go_wp2_with (first | (go_at_call 50; refine (CI.out _).mono ?_; rintro e wq ⟨rfl, rfl⟩) | (go_at_call 51; refine (CK.out _).mono ?_; rintro e wq ⟨rfl, rfl⟩) | (refine wpList_store_mid rfl 28 _ _ rfl (w.heap.size) 0 #[.int .i64 0, .int .i64 0, .slice none 0 0] rfl rfl HT.out (by kernel_rfl) (by kernel_rfl) ?_))
  refine bodyPost_ret (v := .tuple #[.agg #[.int .i64 0, .int .i64 0, .slice none 0 0], .int .i64 (-1)]) (results_row_n Tryz.results24 _ _ (w.heap.size) [.int .i64 0, .int .i64 0, .slice none 0 0] _ _ rfl VF.out Tryz.underlying28 rfl (by kernel_rfl) rfl) rfl ⟨none, 0, rfl, OwnTerm.none, BR.out⟩

set_option maxRecDepth 20000 in
set_option maxHeartbeats 16000000 in
theorem l7Decode_leaf2put (b2 o2 m cb : Nat) (ds : List Int) (hb : Bytes ds) (hm : ds.length = m) (hm4 : m ≤ 400) (k : Nat) (a : Option Addr) (n ca : Nat) (xs : List T4) (w : World) (ha : RdTerm w a xs) (hn : xs.length = n) (hx : n ≤ 1000) (hca : a = none → ca = 0) (hr : Rd .u8 w (some ⟨b2, o2, none⟩) ds) (dp : Int) (hdp : -1000 ≤ dp ∧ dp ≤ 30) (hk : k < m) (ho : ds.getD k 0 = 2) (nn : Int) (hnn : takeN ds (k + 1) 2 = nn) (hc : k + 3 ≤ m) (hc0 : 0 ≤ nn) (hc9 : nn ≤ 9999) :
    Calls Tryz.prog 24 #[.slice a n ca, .slice (some ⟨b2, o2, none⟩) m cb, .int .i64 (k : Int), .int .i64 dp] w (Reads w (put xs ⟨2, 0, 0, nn⟩, (k : Int) + 3)) := by
  have q1 := build_tr_
  have q2 := build_tm1
  obtain ⟨hd0, hd1⟩ := hdp
  unfold Reads
  have hkm : (k : Int) < (m : Int) := by omega
  have g1 : decide (m ≤ k) = false := by simp; omega
  have g2 : decide (30 < dp) = false := by simp; omega
  have HA := Hid.mk ha
  have HR := Hid.mk hr
  have _u := And.intro hb (And.intro hm4 (And.intro hx (And.intro hn hca)))
  have rk : (w.alloc (.cells #[.int .i64 0, .int .i64 0, .slice none 0 0] 28)).cell? ⟨b2, o2 + k, none⟩ = some (.int .u8 2) := by
    rcases hr.kept (belowA w (.cells #[.int .i64 0, .int .i64 0, .slice none 0 0] 28)) with h0 | ⟨b3, o3, e3, h3⟩
    · rw [h0] at hm; simp at hm; omega
    · simp only [Option.some.injEq, Addr.mk.injEq, and_true] at e3
      obtain ⟨rfl, rfl⟩ := e3
      rw [h3 k (by omega), ho]
  have hc1 : (k : Int) + 3 ≤ (m : Int) := by omega
  have CT := fun w h => l1Take_ok (some ⟨b2, o2, none⟩) m cb (k + 1) 2 ds w h hb hm (by unfold maxLen; omega) (by omega) (by omega)
  rw [hnn] at CT
  simp only [Int.natCast_add, Int.natCast_one] at CT
  replace CT := Hid.mk CT
  have CP := fun w h => l5Put_ok a n ca xs ⟨2, 0, 0, nn⟩ w h hn (by omega) hca
  generalize put xs ⟨2, 0, 0, nn⟩ = P at *
  obtain ⟨pc, pk, pl⟩ := P
  simp only at CP ⊢
  obtain ⟨ll, hll⟩ : ∃ l, pl.length = l := ⟨_, rfl⟩
  rw [hll] at CP ⊢
  replace CP := Hid.mk CP
  have CI := l1In_ok 2 1 7
  rw [show btw 2 1 7 = true from btw_iff.2 (by omega)] at CI
  replace CI := Hid.mk CI
  have CK := l5Kids_ok 2
  rw [show kids 2 = 0 by unfold kids; simp] at CK
  replace CK := Hid.mk CK
  go_enter Tryz.func24, Tryz.ntmps24
  have B := Below.refl w.heap.size w
  replace B := thenB B (belowA w (.cells #[.int .i64 0, .int .i64 0, .slice none 0 0] 28))
  have VR := V.new w [.int .i64 0, .int .i64 0, .slice none 0 0] 28
  replace VR := VR.kept (belowA (w.alloc (.cells #[.int .i64 0, .int .i64 0, .slice none 0 0] 28)) (.cells #[.int .i64 2, .int .i64 0, .int .i64 0, .int .i64 0] 70))
  replace B := thenB B (belowA (w.alloc (.cells #[.int .i64 0, .int .i64 0, .slice none 0 0] 28)) (.cells #[.int .i64 2, .int .i64 0, .int .i64 0, .int .i64 0] 70))
  have VT : V ((w.alloc (.cells #[.int .i64 0, .int .i64 0, .slice none 0 0] 28)).alloc (.cells #[.int .i64 2, .int .i64 0, .int .i64 0, .int .i64 0] 70)) (w.heap.size + 1) [.int .i64 2, .int .i64 0, .int .i64 0, .int .i64 0] := V.newAt _ _ _ _ (by simp)
  obtain ⟨s_VR, f_VR, z_VR⟩ := VR.open
  obtain ⟨s_VT, f_VT, z_VT⟩ := VT.open
  have Bo := B
  go_wp2_with (first | (go_at_call 50; refine (CI.out _).mono ?_; rintro e wq ⟨rfl, rfl⟩) | (go_at_call 51; refine (CK.out _).mono ?_; rintro e wq ⟨rfl, rfl⟩) | fail)
  refine (CT.out _ (HR.out.kept B)).mono ?_
  rintro e w11 ⟨rfl, b11⟩
  clear s_VR f_VR z_VR s_VT f_VT z_VT
  have S11 := b11.size
  simp only [World.size_alloc] at S11
  replace VR := VR.kept b11
  replace VT := VT.kept b11
  replace B := thenB B b11
  clear b11
  obtain ⟨s_VR, f_VR, z_VR⟩ := VR.open
  obtain ⟨s_VT, f_VT, z_VT⟩ := VT.open
  have Bo := B
  replace VR := VR.other (p := ⟨w.heap.size + 1, 3, none⟩) (by (try simp); (try omega)) (.int .i64 nn)
  replace VT := VT.set (i := 3) (by simp) (.int .i64 nn)
  simp only [List.set_cons_zero, List.set_cons_succ] at VT
  replace B := B.setCell (p := ⟨w.heap.size + 1, 3, none⟩) (by (try simp); (try omega)) (.int .i64 nn)
  go_upto_region 8 with fail
  clear s_VR f_VR z_VR s_VT f_VT z_VT
  obtain ⟨s_VR, f_VR, z_VR⟩ := VR.open
  obtain ⟨s_VT, f_VT, z_VT⟩ := VT.open
  have Bo := B
  go_wp2_with (first | (go_at_call 50; refine (CI.out _).mono ?_; rintro e wq ⟨rfl, rfl⟩) | (go_at_call 51; refine (CK.out _).mono ?_; rintro e wq ⟨rfl, rfl⟩) | fail)
  refine (CP.out _ (HA.out.kept B)).mono ?_
  rintro e w12 ⟨c, d, rfl, O, b12⟩
  clear s_VR f_VR z_VR s_VT f_VT z_VT
  have S12 := b12.size
  simp only [World.size_setCell] at S12
  replace VR := VR.kept b12
  replace VT := VT.kept b12
  replace B := thenB B b12
  clear b12
  obtain ⟨s_VR, f_VR, z_VR⟩ := VR.open
  obtain ⟨s_VT, f_VT, z_VT⟩ := VT.open
  have Bo := B
  have OL := Hid.mk (fun b hb => (O.lt b hb).1)
  clear s_VR f_VR z_VR s_VT f_VT z_VT
  have VF := Hid.mk (VR.filled [.int .i64 pc, .int .i64 pk, .slice c ll d] rfl)
  have HT := Hid.mk VR.there
  have BR := belowCells B (show w.heap.size ≤ w.heap.size by (first | omega | (simp; done) | (simp; omega))) 0 [.int .i64 pc, .int .i64 pk, .slice c ll d]
  replace BR := Hid.mk BR
  have HO := Hid.mk ((O.mono (show w.heap.size ≤ _ by first | omega | (simp; done) | (simp; omega))).apart (B := w.heap.size) (by intro b hb; have := OL.out b hb; first | omega | (simp at this; omega)) 0 [.int .i64 pc, .int .i64 pk, .slice c ll d])
  obtain ⟨s_VR, f_VR, z_VR⟩ := VR.open
  obtain ⟨s_VT, f_VT, z_VT⟩ := VT.open
  go_wp2_with (first | (go_at_call 50; refine (CI.out _).mono ?_; rintro e wq ⟨rfl, rfl⟩) | (go_at_call 51; refine (CK.out _).mono ?_; rintro e wq ⟨rfl, rfl⟩) | (refine wpList_store_mid rfl 28 _ _ rfl (w.heap.size) 0 #[.int .i64 pc, .int .i64 pk, .slice c ll d] rfl rfl HT.out (by kernel_rfl) (by kernel_rfl) ?_))
  refine bodyPost_ret (v := .tuple #[.agg #[.int .i64 pc, .int .i64 pk, .slice c ll d], .int .i64 ((k : Int) + 3)]) (results_row_n Tryz.results24 _ _ (w.heap.size) [.int .i64 pc, .int .i64 pk, .slice c ll d] _ _ rfl VF.out Tryz.underlying28 rfl (by kernel_rfl) rfl) rfl ⟨c, d, rfl, HO.out, BR.out⟩

end Go.Proofs.YtfldgeokigcokaaGreat
