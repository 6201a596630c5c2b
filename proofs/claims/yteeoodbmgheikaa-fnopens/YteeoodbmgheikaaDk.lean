/- The draws of chapter 6. -/
import Derived.Test.YteeoodbmgheikaaDrM
import Derived.Test.YteeoodbmgheikaaIntA
import Derived.Test.YteeoodbmgheikaaZl
namespace Go.Proofs.Yteeoodbmgheikaa
open Go.RowKit

theorem Own.rd_kept {w w' : World} {base g d : Nat} {zs : List Int} (h : Own .i64 2 w base (some ⟨g, 0, none⟩) d zs) (hb : Below w.heap.size w w') : Rd .i64 w' (some ⟨g, 0, none⟩) zs := (h.kept hb).rd

set_option maxRecDepth 20000 in
set_option maxHeartbeats 8000000 in
theorem l6Known_ok (B : Nat) (a : Option Addr) (n ca : Nat) (zs : List Int) (t : Nat) (w : World) (hs : Src w B a n ca zs t) (hb : Bytes zs) (hn : zs.length = n) (hx : n ≤ 1048577) (ht : t ≤ 8000) (c : Option Addr) (d k : Nat) (hk : k ≤ 401) :
    Calls Try.prog 69 #[.pointer (some ⟨B, 0, none⟩), .slice c k d] w fun e w' => ∃ (g d2 k2 : Nat) (kn : List Int) (q : Nat), e = .returned (.slice (some ⟨g, 0, none⟩) k2 d2) ∧ (kn.length = k2 ∧ k2 ≤ 402 ∧ ∀ z ∈ kn, -1 ≤ z ∧ z ≤ 401) ∧ Own .i64 2 w' w.heap.size (some ⟨g, 0, none⟩) d2 kn ∧ q ≤ t + 500 ∧ Src w' B a n ca zs q ∧ w.grownBy w' (some B) := by
  have hB : B < w.heap.size := hs.1.1
  have bA := belowA w (.cells #[] 2)
  have O0 := Hid.mk (OwnI.lit w [] [] rfl (Nat.zero_le _))
  have S0 := Hid.mk (hs.kept bA)
  have G0 := Hid.mk (grown_alloc (World.grownBy.refl w (some B)) (.cells #[] 2))
  have CC := Hid.mk (fun w t S ht => l1Chance_ok B a n ca zs t 4 w S hb hn hx ht (by omega))
  have CN := Hid.mk (fun w t S ht => l1Next_ok B a n ca zs t 24 w S hb hn hx ht (by omega))
  have CP := Hid.mk (fun (w : World) (t : Nat) (S : Src (w.alloc (.cells #[.int .i64 (-1), .int .i64 (k : Int), .int .i64 0] 2)) B a n ca zs t) (ht : t ≤ 1000000) hc (hB : w.heap.size ≠ B) => l1Pick_ok B a n ca zs t w.heap.size 3 3 [-1, (k : Int), 0] (w.alloc (.cells #[.int .i64 (-1), .int .i64 (k : Int), .int .i64 0] 2)) S hb hn hx ht rfl (by omega) (by omega) hc hB)
  clear bA hs
  go_enter Try.func69, Try.ntmps69
  go_wp2
  go_loopw [5, 6] (fun s i wr => ∃ (j g d2 m : Nat) (kn : List Int) (q : Nat), j ≤ k ∧ i = .int .i64 j ∧ s = .slice (some ⟨g, 0, none⟩) m d2 ∧ Hid (kn.length = m ∧ m ≤ j ∧ ∀ z ∈ kn, -1 ≤ z ∧ z ≤ 401) ∧ Own .i64 2 wr w.heap.size (some ⟨g, 0, none⟩) d2 kn ∧ q ≤ t + j ∧ Src wr B a n ca zs q ∧ w.grownBy wr (some B)) (fun _ i _ => k - (intOf i).toNat)
  case atStart => exact ⟨0, w.heap.size, 0, 0, [], t, Nat.zero_le _, rfl, rfl, Hid.mk ⟨rfl, Nat.zero_le _, by simp⟩, O0.out, Nat.le_refl _, S0.out, G0.out⟩
  case round =>
    clear O0 S0 G0
    obtain ⟨j, g, d2, m, kn, q, hj, rfl, rfl, hkn, O, hq, S, G⟩ := hrel
    by_cases hlt : j < k
    · have hj1 : (j : Int) < (k : Int) := by omega
      go_wp2_with fail
      refine (CC.out _ _ S (by omega)).mono ?_
      rintro e w1 ⟨v, rfl, S1, g1⟩
      have O1 := O.past g1 hB
      have G1 := grownBy_trans G g1
      clear S O G g1
      cases v
      · replace S1 := Hid.mk S1
        replace O1 := Hid.mk O1
        replace G1 := Hid.mk G1
        go_wp2
        go_roundw
        case rel => exact ⟨j + 1, g, d2, m, kn, q + 1, by omega, by go_num, rfl, Hid.mk ⟨hkn.out.1, by have := hkn.out.2.1; omega, hkn.out.2.2⟩, O1.out, by omega, S1.out, G1.out⟩
        case measure => first | (simp [intOf]; done) | (simp [intOf]; omega)
      · have hm4 : m ≤ 1000000 := by have := hkn.out.2.1; omega
        have bL := belowA w1 (.cells #[.int .i64 (j : Int)] 2)
        have hz := G1.size
        have O2 := Hid.mk (O1.kept bL)
        have S2 := Hid.mk (S1.kept bL)
        have G2 := Hid.mk (grown_alloc G1 (.cells #[.int .i64 (j : Int)] 2))
        have TL : w.heap.size ≤ (w1.alloc (.cells #[.int .i64 (j : Int)] 2)).heap.size := by simp; omega
        clear O1 S1 G1 bL
        go_wp2_with (at_builtin; go_loud (refine wpList_putI _ rfl _ _ rfl w.heap.size _ d2 kn m hkn.out.1 rfl O2.out _ 1 (j : Int) rfl (cell_one' _ _ _ 0 _ rfl) (by omega) TL ?_))
        intro c4 d4 w4 O4 hg4 hx4
        obtain ⟨g4, rfl, _⟩ := hx4.out
        have hgw := (O2.out.lt _ rfl).1
        simp only at hgw
        have S4 := S2.out.grownAway hg4 (fun q hq => by simp at hq; subst hq; omega)
        have G4 := grownRow2 G2.out hg4 (fun q hq => by simp at hq; subst hq; omega)
        have K4 : Hid ((kn ++ [(j : Int)]).length = m + 1 ∧ m + 1 ≤ j + 1 ∧ ∀ z ∈ kn ++ [(j : Int)], -1 ≤ z ∧ z ≤ 401) := Hid.mk ⟨by rw [List.length_append, hkn.out.1]; rfl, by have := hkn.out.2.1; omega, fun z hz => by
          rcases List.mem_append.1 hz with h | h
          · exact hkn.out.2.2 z h
          · simp at h; omega⟩
        replace S4 := Hid.mk S4
        replace O4 := Hid.mk O4
        replace G4 := Hid.mk G4
        clear O2 S2 G2 hg4 hx4 TL hz
        go_wp2
        go_roundw
        case rel => exact ⟨j + 1, g4, d4, m + 1, _, q + 1, by omega, by go_num, rfl, K4, O4.out, by omega, S4.out, G4.out⟩
        case measure => first | (simp [intOf]; done) | (simp [intOf]; omega)
    · obtain rfl : j = k := by omega
      go_wp2_with fail
      refine (CN.out _ _ S (by omega)).mono ?_
      rintro e w1 ⟨v, rfl, hv, _, S1, g1⟩
      clear hv
      have O1 := O.past g1 hB
      have G1 := grownBy_trans G g1
      have hm4 := hkn.out.2.1
      have hz := G1.size
      clear S O G g1
      by_cases hv0 : v = 0
      · subst hv0
        have hB1 : B < w1.heap.size := by omega
        have bL := belowA w1 (.cells #[.int .i64 (-1), .int .i64 (j : Int), .int .i64 0] 2)
        have O2 := O1.kept bL
        have S2 := S1.kept bL
        have G2 := grown_alloc G1 (.cells #[.int .i64 (-1), .int .i64 (j : Int), .int .i64 0] 2)
        clear O1 S1 G1
        go_wp2_with fail
        refine (CP.out w1 _ S2 (by omega) (fun i hi => lit_cells w1 [-1, (j : Int), 0] _ _ (by simp) i hi) (by omega)).mono ?_
        rintro e w2 ⟨x, rfl, hx2, S3, g3⟩
        have hxr : -1 ≤ x ∧ x ≤ 401 := by simp only [List.mem_cons, List.not_mem_nil, or_false] at hx2; omega
        have O3 := O2.past g3 hB
        have G3 := grownBy_trans G2 g3
        have hz3 := G3.size
        clear O2 S2 G2 g3 hx2
        have bL2 := belowA w2 (.cells #[.int .i64 x] 2)
        have O4 := Hid.mk (O3.kept bL2)
        have S4 := Hid.mk (S3.kept bL2)
        have G4 := Hid.mk (grown_alloc G3 (.cells #[.int .i64 x] 2))
        have TL : w.heap.size ≤ (w2.alloc (.cells #[.int .i64 x] 2)).heap.size := by simp; omega
        clear O3 S3 G3 bL bL2
        go_wp2_with (at_builtin; go_loud (refine wpList_putI _ rfl _ _ rfl w.heap.size _ d2 kn m hkn.out.1 rfl O4.out _ 1 x rfl (cell_one' _ _ _ 0 _ rfl) (by omega) TL ?_))
        intro c4 d4 w4 O5 hg4 hx4
        obtain ⟨g4, rfl, _⟩ := hx4.out
        have hgw := (O4.out.lt _ rfl).1
        simp only at hgw
        have S5 := Hid.mk (S4.out.grownAway hg4 (fun q hq => by simp at hq; subst hq; omega))
        have G5 := Hid.mk (grownRow2 G4.out hg4 (fun q hq => by simp at hq; subst hq; omega))
        have K4 : Hid ((kn ++ [x]).length = m + 1 ∧ m + 1 ≤ 402 ∧ ∀ z ∈ kn ++ [x], -1 ≤ z ∧ z ≤ 401) := Hid.mk ⟨by rw [List.length_append, hkn.out.1]; rfl, by omega, fun z hz => by
          rcases List.mem_append.1 hz with h | h
          · exact hkn.out.2.2 z h
          · simp at h; omega⟩
        replace O5 := Hid.mk O5
        clear O4 S4 G4 hg4 hx4 TL hz hz3
        go_wp2
        go_ret
        exact ⟨g4, d4, m + 1, _, q + 1 + 1, rfl, K4.out, O5.out, by omega, S5.out, G5.out⟩
      · have e0 : (v == 0) = false := by simp [hv0]
        by_cases hv1 : v = 1
        · subst hv1
          obtain ⟨i0, hi, hz0, hz1, hz2⟩ := info_parts Try.infoI64
          go_wp2_with (at_make; go_loud (refine wpList_make_full _ rfl _ _ 25 rfl w1.heap.size 2 i0 (.int .i64 0) 1 Try.underlying25 hi hz0 hz1 .i64 .i64 _ _ 401 rfl rfl (by omega) (by omega) (by rw [hz2]; omega) (by unfold maxLen; omega) (Nat.le_refl _) ?_))
          intro w2 hown hgrow
          have B2 : Below w1.heap.size w1 w2 := (Below.refl _ w1).grown hgrow (Nat.le_refl _) (by intro k hk; cases hk)
          have O5 : Own .i64 2 w2 w1.heap.size (some ⟨w1.heap.size, 0, none⟩) 401 (List.replicate 401 0) := by
            unfold Own
            rw [List.length_replicate, List.map_replicate]
            simpa [toList_madeCells_one] using hown
          have O6 := Hid.mk (O5.mono (base' := w.heap.size) hz)
          have S5 := Hid.mk (S1.kept B2)
          have G5 := Hid.mk (grownBy_trans G1 (Below.grownBy B2 (some B)))
          have K4 : Hid ((List.replicate 401 (0 : Int)).length = 401 ∧ 401 ≤ 402 ∧ ∀ z ∈ List.replicate 401 (0 : Int), -1 ≤ z ∧ z ≤ 401) := Hid.mk ⟨by simp, by omega, fun z hz => by have := List.eq_of_mem_replicate hz; omega⟩
          clear O1 S1 G1 hown hgrow B2 O5 hi hz0 hz1 hz2 hz
          generalize List.replicate 401 (0 : Int) = zz at *
          go_wp2
          go_ret
          exact ⟨w1.heap.size, 401, 401, zz, q + 1, rfl, K4.out, O6.out, by omega, S5.out, G5.out⟩
        · have e1 : (v == 1) = false := by simp [hv1]
          replace O1 := Hid.mk O1
          replace S1 := Hid.mk S1
          replace G1 := Hid.mk G1
          clear hz hv0 hv1
          go_wp2
          go_ret
          exact ⟨g, d2, m, kn, q + 1, rfl, ⟨hkn.out.1, by omega, hkn.out.2.2⟩, O1.out, by omega, S1.out, G1.out⟩

set_option maxRecDepth 20000 in
set_option maxHeartbeats 8000000 in
theorem l6Both_ok (a : Option Addr) (n ca : Nat) (zs : List Int) (w : World) (ha : Rd .u8 w a zs) (hb : Bytes zs) (hn : zs.length = n) (hx : n ≤ 1048577) :
    Calls Try.prog 55 #[.slice a n ca] w fun e w' => ∃ (c : Option Addr) (d k : Nat) (xs : List T4) (g d2 k2 : Nat) (kn : List Int) (q : Nat), e = .returned (.tuple #[.slice c k d, .slice (some ⟨g, 0, none⟩) k2 d2, .pointer (some ⟨w.heap.size, 0, none⟩)]) ∧
      (xs.length = k ∧ k ≤ 401 ∧ k ≤ d ∧ (c = none → d = 0) ∧ (∀ x ∈ xs, okT x) ∧ ∀ b : Addr, c = some b → w.heap.size < b.block ∧ b.block < w'.heap.size) ∧ (kn.length = k2 ∧ k2 ≤ 402 ∧ ∀ z ∈ kn, -1 ≤ z ∧ z ≤ 401) ∧ (w.heap.size < g ∧ g < w'.heap.size) ∧ RdTerm w' c xs ∧ Rd .i64 w' (some ⟨g, 0, none⟩) kn ∧ q ≤ 700 ∧ Src w' w.heap.size a n ca zs q ∧ Below w.heap.size w w' := by
  go_enter Try.func55, Try.ntmps55
  have S := Src.new w a n ca zs 102 ha
  have G := belowA w (.cells #[.slice a n ca, .int .i64 0] 102)
  go_wp2_with (first | (go_at_call 67; go_in) | fail)
  refine (l5Bent_ok w.heap.size a n ca zs 0 _ S hb hn hx (by omega)).mono ?_
  rintro e w1 ⟨c, d, k, xs, q1, rfl, hl, hk, hok, O, hq1, S1, g1⟩
  have hcap := O.cap
  have hnc := ownTerm_nocap O
  rw [hl] at hcap
  have hOl := O.lt
  simp only [World.size_alloc] at hOl
  have R := O.rd
  replace G := G.grown g1 (by simp) (by simp)
  have hz1 := G.size
  have hz0 := g1.size
  simp only [World.size_alloc] at hz0
  replace hOl := Hid.mk hOl
  clear g1 O S
  replace R := Hid.mk R
  go_wp2_with fail
  refine (l6Known_ok w.heap.size a n ca zs q1 _ S1 hb hn hx (by omega) c d k hk).mono ?_
  rintro e w2 ⟨g, d2, k2, kn, q2, rfl, hkn, O2, hq2, S2, g2⟩
  have R2 := Hid.mk (R.out.grown g2 (fun b hb e => by have := (hOl.out b hb).1; simp at e; omega))
  have hz2 := g2.size
  have hgl := O2.lt _ rfl
  simp only at hgl
  have RK := Hid.mk O2.rd
  have G2 := Hid.mk (G.grown g2 (by omega) (by simp))
  have HL := Hid.mk (show xs.length = k ∧ k ≤ 401 ∧ k ≤ d ∧ (c = none → d = 0) ∧ (∀ x ∈ xs, okT x) ∧ ∀ b : Addr, c = some b → w.heap.size < b.block ∧ b.block < w2.heap.size from ⟨hl, hk, hcap, hnc, hok, fun b hb => ⟨by have := (hOl.out b hb).1; omega, by have := (hOl.out b hb).2; omega⟩⟩)
  have HK := Hid.mk hkn
  have S3 := Hid.mk S2
  clear hl hcap hnc hok hkn S1 S2 R g2 O2 G
  go_wp2
  refine bodyPost_ret (v := .tuple #[.slice c k d, .slice (some ⟨g, 0, none⟩) k2 d2, .pointer (some ⟨w.heap.size, 0, none⟩)]) (by simp [results, Try.results55, go_sem]) rfl ⟨c, d, k, xs, g, d2, k2, kn, q2, rfl, HL.out, HK.out, ⟨by omega, hgl.2⟩, R2.out, RK.out, by omega, S3.out, G2.out⟩

set_option maxRecDepth 20000 in
set_option maxHeartbeats 8000000 in
theorem l6With_ok (a : Option Addr) (n ca : Nat) (zs : List Int) (w : World) (ha : Rd .u8 w a zs) (hb : Bytes zs) (hn : zs.length = n) (hx : n ≤ 1048577) :
    Calls Try.prog 47 #[.slice a n ca] w fun e w' => ∃ (c : Option Addr) (d k : Nat) (xs : List T4) (g d2 k2 : Nat) (kn : List Int) (v : Int), e = .returned (.tuple #[.slice c k d, .slice (some ⟨g, 0, none⟩) k2 d2, .int .i64 v]) ∧
      (xs.length = k ∧ k ≤ 401 ∧ k ≤ d ∧ (c = none → d = 0) ∧ (∀ x ∈ xs, okT x)) ∧ (kn.length = k2 ∧ k2 ≤ 402 ∧ ∀ z ∈ kn, -1 ≤ z ∧ z ≤ 401) ∧ (-1 ≤ v ∧ v ≤ 401) ∧ RdTerm w' c xs ∧ Rd .i64 w' (some ⟨g, 0, none⟩) kn ∧ Below w.heap.size w w' := by
  have CB := Hid.mk (l6Both_ok a n ca zs w ha hb hn hx)
  clear ha
  go_enter Try.func47, Try.ntmps47
  go_wp2_with fail
  refine CB.out.mono ?_
  rintro e w1 ⟨c, d, k, xs, g, d2, k2, kn, q, rfl, hxs, hkn, hg, R, RK, hq, S, G⟩
  obtain ⟨hl, hk, hcap, hnc, hok, hlt⟩ := hxs
  have HL := Hid.mk (show xs.length = k ∧ k ≤ 401 ∧ k ≤ d ∧ (c = none → d = 0) ∧ (∀ x ∈ xs, okT x) from ⟨hl, hk, hcap, hnc, hok⟩)
  have HK := Hid.mk hkn
  have hG := G.size
  replace R := Hid.mk R
  replace RK := Hid.mk RK
  replace hlt := Hid.mk hlt
  clear CB hl hcap hnc hok hkn
  go_wp2_with fail
  refine (l5Place_ok w.heap.size a n ca zs q _ S hb hn hx (by omega) c d k hk).mono ?_
  rintro e w2 ⟨v, rfl, hv, S2, g2⟩
  have R2 := Hid.mk (R.out.grown g2 (fun b hb e => by have := (hlt.out b hb).1; simp at e; omega))
  have RK2 := Hid.mk (RK.out.grown g2 (.inr (fun b hb e => by cases hb; simp at e; omega)))
  have G2 := Hid.mk (G.grown g2 hG (by simp))
  clear S S2 g2 G R RK
  go_wp2
  refine bodyPost_ret (v := .tuple #[.slice c k d, .slice (some ⟨g, 0, none⟩) k2 d2, .int .i64 v]) (by simp [results, Try.results47, go_sem]) rfl ⟨c, d, k, xs, g, d2, k2, kn, v, rfl, HL.out, HK.out, hv, R2.out, RK2.out, G2.out⟩

theorem extractK0 (u v x : Value) (w : World) : (Instr.extract (.tuple #[u, v, x]) 0).run Try.prog w = .ok u w := by kernel_rfl

theorem extractK1 (u v x : Value) (w : World) : (Instr.extract (.tuple #[u, v, x]) 1).run Try.prog w = .ok v w := by kernel_rfl

theorem extractK2 (u v x : Value) (w : World) : (Instr.extract (.tuple #[u, v, x]) 2).run Try.prog w = .ok x w := by kernel_rfl

set_option maxHeartbeats 4000000 in
theorem drawDerives_ok (a : Option Addr) (n ca : Nat) (zs : List Int) (w : World) (ha : Rd .u8 w a zs) (hb : Bytes zs) (hn : zs.length = n) (hx : n ≤ 1048577) :
    Calls Try.prog 21 #[.slice a n ca] w fun e w' => ∃ (c : Option Addr) (d k : Nat) (xs : List T4) (g d2 k2 : Nat) (kn : List Int) (v : Int), e = .returned (.tuple #[.slice c k d, .slice (some ⟨g, 0, none⟩) k2 d2, .int .i64 v]) ∧
      (xs.length = k ∧ k ≤ 401 ∧ k ≤ d ∧ (c = none → d = 0) ∧ (∀ x ∈ xs, okT x)) ∧ (kn.length = k2 ∧ k2 ≤ 402 ∧ ∀ z ∈ kn, -1 ≤ z ∧ z ≤ 401) ∧ (-1 ≤ v ∧ v ≤ 401) ∧ RdTerm w' c xs ∧ Rd .i64 w' (some ⟨g, 0, none⟩) kn ∧ Below w.heap.size w w' := by
  have CB := Hid.mk (l6With_ok a n ca zs w ha hb hn hx)
  have e0 := extractK0
  have e1 := extractK1
  have e2 := extractK2
  clear ha
  go_enter Try.func21, Try.ntmps21
  go_wp2_with fail
  refine CB.out.mono ?_
  rintro e w1 ⟨c, d, k, xs, g, d2, k2, kn, v, rfl, h⟩
  replace h := Hid.mk h
  go_wp2
  refine bodyPost_ret (v := .tuple #[.slice c k d, .slice (some ⟨g, 0, none⟩) k2 d2, .int .i64 v]) (by simp [results, Try.results21, go_sem]) rfl ⟨c, d, k, xs, g, d2, k2, kn, v, rfl, h.out⟩

set_option maxHeartbeats 4000000 in
theorem drawKnownFault_ok (a : Option Addr) (n ca : Nat) (zs : List Int) (w : World) (ha : Rd .u8 w a zs) (hb : Bytes zs) (hn : zs.length = n) (hx : n ≤ 1048577) :
    Calls Try.prog 38 #[.slice a n ca] w fun e w' => ∃ (c : Option Addr) (d k : Nat) (xs : List T4) (g d2 k2 : Nat) (kn : List Int), e = .returned (.tuple #[.slice c k d, .slice (some ⟨g, 0, none⟩) k2 d2]) ∧
      (xs.length = k ∧ k ≤ 401 ∧ k ≤ d ∧ (c = none → d = 0) ∧ (∀ x ∈ xs, okT x)) ∧ (kn.length = k2 ∧ k2 ≤ 402 ∧ ∀ z ∈ kn, -1 ≤ z ∧ z ≤ 401) ∧ RdTerm w' c xs ∧ Rd .i64 w' (some ⟨g, 0, none⟩) kn ∧ Below w.heap.size w w' := by
  have CB := Hid.mk (l6Both_ok a n ca zs w ha hb hn hx)
  have e0 := extractK0
  have e1 := extractK1
  have e2 := extractK2
  clear ha
  go_enter Try.func38, Try.ntmps38
  go_wp2_with fail
  refine CB.out.mono ?_
  rintro e w1 ⟨c, d, k, xs, g, d2, k2, kn, q, rfl, ⟨h1, h2, h3, h4, h5, _⟩, hk, _, R, RK, _, _, G⟩
  have h := Hid.mk (And.intro (show xs.length = k ∧ k ≤ 401 ∧ k ≤ d ∧ (c = none → d = 0) ∧ (∀ x ∈ xs, okT x) from ⟨h1, h2, h3, h4, h5⟩) (And.intro hk (And.intro R (And.intro RK G))))
  clear h1 h2 h3 h4 h5 hk R RK G
  go_wp2
  refine bodyPost_ret (v := .tuple #[.slice c k d, .slice (some ⟨g, 0, none⟩) k2 d2]) (by simp [results, Try.results38, go_sem]) rfl ⟨c, d, k, xs, g, d2, k2, kn, rfl, h.out⟩

theorem extractI0 (u v : Value) (w : World) : (Instr.extract (.tuple #[u, v]) 0).run Try.prog w = .ok u w := by kernel_rfl

theorem extractI1 (u v : Value) (w : World) : (Instr.extract (.tuple #[u, v]) 1).run Try.prog w = .ok v w := by kernel_rfl

set_option maxHeartbeats 4000000 in
theorem drawOpenAll_ok (a : Option Addr) (n ca : Nat) (zs : List Int) (w : World) (ha : Rd .u8 w a zs) (hb : Bytes zs) (hn : zs.length = n) (hx : n ≤ 1048577) :
    Calls Try.prog 12 #[.slice a n ca] w fun e w' => ∃ (c : Option Addr) (d k : Nat) (xs : List T4) (g d2 k2 : Nat) (kn : List Int), e = .returned (.tuple #[.slice c k d, .slice (some ⟨g, 0, none⟩) k2 d2]) ∧
      (xs.length = k ∧ k ≤ 401 ∧ k ≤ d ∧ (c = none → d = 0) ∧ (∀ x ∈ xs, okT x)) ∧ (kn.length = k2 ∧ k2 ≤ 402 ∧ ∀ z ∈ kn, -1 ≤ z ∧ z ≤ 401) ∧ RdTerm w' c xs ∧ Rd .i64 w' (some ⟨g, 0, none⟩) kn ∧ Below w.heap.size w w' := by
  have CB := Hid.mk (drawKnownFault_ok a n ca zs w ha hb hn hx)
  have e0 := extractI0
  have e1 := extractI1
  clear ha
  go_enter Try.func12, Try.ntmps12
  go_wp2_with fail
  refine CB.out.mono ?_
  rintro e w1 ⟨c, d, k, xs, g, d2, k2, kn, rfl, h⟩
  replace h := Hid.mk h
  go_wp2
  refine bodyPost_ret (v := .tuple #[.slice c k d, .slice (some ⟨g, 0, none⟩) k2 d2]) (by simp [results, Try.results12, go_sem]) rfl ⟨c, d, k, xs, g, d2, k2, kn, rfl, h.out⟩

end Go.Proofs.Yteeoodbmgheikaa
