/- Sizes: the model. -/
import Derived.Test.YthjaehcfakjemaaDoorFmj
import Derived.Test.YthjaehcfakjemaaDoorTmQ
import Derived.Test.YthjaehcfakjemaaDoorMinM
namespace Go.Proofs.YthjaehcfakjemaaDoor
open Go.RowKit

theorem own_some {k : IntKind} {e : TypeId} {w : World} {base : Nat} {a : Option Addr} {cap : Nat} {zs : List Int} (h : Own k e w base a cap zs) (h0 : 0 < zs.length) : ∃ g, a = some ⟨g, 0, none⟩ := by
  rcases h.2 with ⟨_, h1⟩ | ⟨g, cap', cur, hv, _⟩
  · omega
  · simp only [Value.slice.injEq, true_and] at hv; exact ⟨g, hv.1⟩

set_option maxRecDepth 20000 in
set_option maxHeartbeats 8000000 in
theorem l5Sizes_ok (a : Option Addr) (n ca : Nat) (xs : List T4) (w : World) (ha : RdTerm w a xs) (hn : xs.length = n) (hv : tfC xs = 0) :
    Calls Tryd.prog 36 #[.slice a n ca] w fun e w' => ∃ c d, e = .returned (.slice c n d) ∧ Own .i64 2 w' w.heap.size c d (szL xs n) ∧ Below w.heap.size w w' := by
  have hn4 : n ≤ 400 := by have := (tfC_zero hv).1; omega
  have HAh := Hid.mk (tfC_ahead hv)
  have HA := Hid.mk ha
  have OL := Hid.mk (OwnI.lit w [] [] rfl (Nat.zero_le _))
  clear ha hv
  go_enter Tryd.func36, Tryd.ntmps36
  go_wp2
  go_loopw [3, 4] (fun s i wr => ∃ (k : Nat) (c : Option Addr) (d : Nat), k ≤ n ∧ i = .int .i64 k ∧ s = .slice c k d ∧ Own .i64 2 wr w.heap.size c d (szL xs k) ∧ Below w.heap.size w wr) (fun _ i _ => n - (intOf i).toNat)
  case atStart => exact ⟨0, some ⟨w.heap.size, 0, none⟩, 0, Nat.zero_le _, rfl, rfl, OL.out, belowA _ _⟩
  case round =>
    clear OL
    obtain ⟨k, c, d, hk, rfl, rfl, O, B⟩ := hrel
    by_cases hlt : k < n
    · obtain ⟨x, hx1⟩ : ∃ x, xs.getD k zTerm = x := ⟨_, rfl⟩
      have hk1 : (k : Int) < (n : Int) := by omega
      have hs := sz_step k (by omega) HAh.out hx1
      obtain ⟨hA1, hB1⟩ := HAh.out k (by omega)
      rw [hx1] at hA1 hB1
      have hO := szL_len xs k
      rcases HA.out.kept B with h0 | ⟨b1, o1, rfl, hca⟩
      · rw [h0] at hn; simp at hn; omega
      obtain ⟨p0, p1, p2, p3⟩ := RdTerm.cells hca k (by omega) x hx1
      clear hca hx1
      rcases kids_cases x.o with hk2 | hk2 | hk2
      · skip
        rw [hk2] at hs
        simp only [Int.lt_irrefl, if_false, show ¬ ((1 : Int) < 0) by decide, Int.add_zero] at hs
        obtain ⟨v, hv⟩ : ∃ v, (den xs k).sz = v := ⟨_, rfl⟩
        have hvb := (den xs k).sz_in
        have HNX := Hid.mk (szL_next xs k)
        rw [hv] at hs hvb HNX
        have HS := Hid.mk hs
        have HO := Hid.mk hO
        have OLT := Hid.mk O.lt
        have CM := Hid.mk (l3Min_ok 1000000 (1))
        rw [← hs] at CM
        clear hs hv  hA1 hB1
        have O2 := O.kept (belowA wr (.cells #[.int .i64 v] 2))
        have B2 := thenB B (belowA wr (.cells #[.int .i64 v] 2))
        have TL := B2.size
        replace B2 := Hid.mk B2
        replace O2 := Hid.mk O2
        go_wp2_with (first | (go_at_call 54; refine (l5Kids_ok _ _).mono ?_; rintro e wq ⟨rfl, rfl⟩) | (go_at_call 64; refine (CM.out _).mono ?_; rintro e wq ⟨rfl, rfl⟩) | (at_builtin; go_loud (refine wpList_putI _ rfl _ _ rfl w.heap.size c d (szL xs k) k HO.out rfl O2.out _ 1 v rfl (cell_one' _ _ _ 0 _ rfl) (by omega) TL ?_)) | fail)
        intro c4 d4 w4 O4 hg4 hx4
        have B4 := Hid.mk (belowG (c := c) B2.out hg4 TL (fun b hb => (O2.out.lt b hb).1))
        rw [← HNX.out] at O4
        replace O4 := Hid.mk O4
        clear hg4 hx4 TL
        go_wp2
        go_roundw
        case rel => exact ⟨k + 1, c4, d4, by omega, by go_num, rfl, O4.out, B4.out⟩
        case measure => simp [intOf]; omega
      · skip
        obtain ⟨ja, hja⟩ : ∃ j : Nat, x.a = (j : Int) := ⟨x.a.toNat, by have := hA1 (by omega); omega⟩
        have hjk : ja < k := by have := hA1 (by omega); omega
        have hza := szL_at xs k ja hjk
        rw [hk2] at hs
        rw [hja, Int.toNat_natCast] at hs
        simp only [show (0 : Int) < 1 by decide, if_true, Int.lt_irrefl, if_false, Int.add_zero] at hs
        obtain ⟨v, hv⟩ : ∃ v, (den xs k).sz = v := ⟨_, rfl⟩
        have hvb := (den xs k).sz_in
        obtain ⟨sa, hsa⟩ : ∃ v, (den xs ja).sz = v := ⟨_, rfl⟩
        have hsb1 := (den xs ja).sz_in
        rw [hsa] at hs hza hsb1
        have HNX := Hid.mk (szL_next xs k)
        rw [hv] at hs hvb HNX
        obtain ⟨g, hg, _⟩ : ∃ g, c = some ⟨g, 0, none⟩ ∧ True := ⟨_, (own_some O (by rw [hO]; omega)).choose_spec, trivial⟩
        subst hg
        have ra := O.rd
        rcases ra with ra | ⟨b3, o3, e3, ra⟩
        · rw [ra] at hO; simp at hO; omega
        simp only [Option.some.injEq, Addr.mk.injEq, and_true] at e3
        obtain ⟨rfl, rfl⟩ := e3
        have r0 := ra ja (by rw [hO]; omega)
        rw [hza, Nat.zero_add] at r0
        have HS := Hid.mk hs
        have HO := Hid.mk hO
        have OLT := Hid.mk O.lt
        have CM := Hid.mk (l3Min_ok 1000000 (1 + sa))
        rw [← hs] at CM
        have hjl : (ja : Int) < (k : Int) := by omega
        rw [hja] at p1
        have w1 : 1 + sa ≤ 9223372036854775807 := by omega
        have w2 : -9223372036854775808 ≤ 1 + sa := by omega
        clear hs hv hza hsa hA1 hB1
        clear ra
        have O2 := O.kept (belowA wr (.cells #[.int .i64 v] 2))
        have B2 := thenB B (belowA wr (.cells #[.int .i64 v] 2))
        have TL := B2.size
        replace B2 := Hid.mk B2
        replace O2 := Hid.mk O2
        go_wp2_with (first | (go_at_call 54; refine (l5Kids_ok _ _).mono ?_; rintro e wq ⟨rfl, rfl⟩) | (go_at_call 64; refine (CM.out _).mono ?_; rintro e wq ⟨rfl, rfl⟩) | (at_builtin; go_loud (refine wpList_putI _ rfl _ _ rfl w.heap.size (some ⟨g, 0, none⟩) d (szL xs k) k HO.out rfl O2.out _ 1 v rfl (cell_one' _ _ _ 0 _ rfl) (by omega) TL ?_)) | fail)
        intro c4 d4 w4 O4 hg4 hx4
        have B4 := Hid.mk (belowG (c := (some ⟨g, 0, none⟩)) B2.out hg4 TL (fun b hb => (O2.out.lt b hb).1))
        rw [← HNX.out] at O4
        replace O4 := Hid.mk O4
        clear hg4 hx4 TL
        go_wp2
        go_roundw
        case rel => exact ⟨k + 1, c4, d4, by omega, by go_num, rfl, O4.out, B4.out⟩
        case measure => simp [intOf]; omega
      · skip
        obtain ⟨ja, hja⟩ : ∃ j : Nat, x.a = (j : Int) := ⟨x.a.toNat, by have := hA1 (by omega); omega⟩
        have hjk : ja < k := by have := hA1 (by omega); omega
        have hza := szL_at xs k ja hjk
        obtain ⟨jb, hjb⟩ : ∃ j : Nat, x.b = (j : Int) := ⟨x.b.toNat, by have := hB1 (by omega); omega⟩
        have hjkb : jb < k := by have := hB1 (by omega); omega
        have hzb := szL_at xs k jb hjkb
        rw [hk2] at hs
        rw [hja, Int.toNat_natCast] at hs
        rw [hjb, Int.toNat_natCast] at hs
        simp only [show (0 : Int) < 2 by decide, show (1 : Int) < 2 by decide, if_true] at hs
        obtain ⟨v, hv⟩ : ∃ v, (den xs k).sz = v := ⟨_, rfl⟩
        have hvb := (den xs k).sz_in
        obtain ⟨sa, hsa⟩ : ∃ v, (den xs ja).sz = v := ⟨_, rfl⟩
        have hsb1 := (den xs ja).sz_in
        rw [hsa] at hs hza hsb1
        obtain ⟨sb, hsb⟩ : ∃ v, (den xs jb).sz = v := ⟨_, rfl⟩
        have hsb2 := (den xs jb).sz_in
        rw [hsb] at hs hzb hsb2
        have HNX := Hid.mk (szL_next xs k)
        rw [hv] at hs hvb HNX
        obtain ⟨g, hg, _⟩ : ∃ g, c = some ⟨g, 0, none⟩ ∧ True := ⟨_, (own_some O (by rw [hO]; omega)).choose_spec, trivial⟩
        subst hg
        have ra := O.rd
        rcases ra with ra | ⟨b3, o3, e3, ra⟩
        · rw [ra] at hO; simp at hO; omega
        simp only [Option.some.injEq, Addr.mk.injEq, and_true] at e3
        obtain ⟨rfl, rfl⟩ := e3
        have r0 := ra ja (by rw [hO]; omega)
        rw [hza, Nat.zero_add] at r0
        have r1 := ra jb (by rw [hO]; omega)
        rw [hzb, Nat.zero_add] at r1
        have HS := Hid.mk hs
        have HO := Hid.mk hO
        have OLT := Hid.mk O.lt
        have CM := Hid.mk (l3Min_ok 1000000 (1 + sa + sb))
        rw [← hs] at CM
        have hjl : (ja : Int) < (k : Int) := by omega
        rw [hja] at p1
        have hjl2 : (jb : Int) < (k : Int) := by omega
        rw [hjb] at p2
        have w1 : 1 + sa ≤ 9223372036854775807 := by omega
        have w2 : -9223372036854775808 ≤ 1 + sa := by omega
        have w3 : 1 + sa + sb ≤ 9223372036854775807 := by omega
        have w4 : -9223372036854775808 ≤ 1 + sa + sb := by omega
        clear hs hv hza hsa hzb hsb hA1 hB1
        clear ra
        have O2 := O.kept (belowA wr (.cells #[.int .i64 v] 2))
        have B2 := thenB B (belowA wr (.cells #[.int .i64 v] 2))
        have TL := B2.size
        replace B2 := Hid.mk B2
        replace O2 := Hid.mk O2
        go_wp2_with (first | (go_at_call 54; refine (l5Kids_ok _ _).mono ?_; rintro e wq ⟨rfl, rfl⟩) | (go_at_call 64; refine (CM.out _).mono ?_; rintro e wq ⟨rfl, rfl⟩) | (at_builtin; go_loud (refine wpList_putI _ rfl _ _ rfl w.heap.size (some ⟨g, 0, none⟩) d (szL xs k) k HO.out rfl O2.out _ 1 v rfl (cell_one' _ _ _ 0 _ rfl) (by omega) TL ?_)) | fail)
        intro c4 d4 w4 O4 hg4 hx4
        have B4 := Hid.mk (belowG (c := (some ⟨g, 0, none⟩)) B2.out hg4 TL (fun b hb => (O2.out.lt b hb).1))
        rw [← HNX.out] at O4
        replace O4 := Hid.mk O4
        clear hg4 hx4 TL
        go_wp2
        go_roundw
        case rel => exact ⟨k + 1, c4, d4, by omega, by go_num, rfl, O4.out, B4.out⟩
        case measure => simp [intOf]; omega
    · have hkn : k = n := by omega
      subst hkn
      have HO := Hid.mk O
      clear O
      go_wp2
      go_ret
      exact ⟨c, d, rfl, HO.out, B⟩

end Go.Proofs.YthjaehcfakjemaaDoor
