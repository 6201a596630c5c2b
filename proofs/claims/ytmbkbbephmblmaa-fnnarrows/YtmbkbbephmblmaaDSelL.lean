/- The draws of lists of selectors. -/
import Derived.Test.YtmbkbbephmblmaaDSel2
import Derived.Test.YtmbkbbephmblmaaNrA
import Derived.Test.YtmbkbbephmblmaaNewC
import Derived.Test.YtmbkbbephmblmaaDrawL
namespace Go.Proofs.Ytmbkbbephmblmaa
open Go.RowKit

theorem grownOwn {w wr w1 : World} {B : Nat} {row : Option Nat} (h : w.grownBy wr (some B)) (hg : wr.grownBy w1 row) (hr : ∀ k, row = some k → w.heap.size ≤ k) : w.grownBy w1 (some B) := by
  refine ⟨hg.os.trans h.os, hg.tape.trans h.tape, hg.output.trans h.output, Nat.le_trans h.size hg.size, fun i hi hr' => ?_⟩
  have h2 := h.size
  rw [hg.block i (by omega) (fun e => by have := hr i e.symm; omega)]
  exact h.block i hi hr'

set_option maxHeartbeats 4000000 in
theorem l3List_ok (B : Nat) (a : Option Addr) (n ca : Nat) (zs : List Int) (t : Nat) (w : World) (hs : Src w B a n ca zs t) (hb : Bytes zs) (hn : zs.length = n) (hx : n ≤ 1048577) (ht : t ≤ 1000) :
    Calls Try.prog 61 #[.pointer (some ⟨B, 0, none⟩)] w fun e w' => ∃ (c d m : Nat) (xs : List S9) (q : Nat), e = .returned (.slice (some ⟨c, 0, none⟩) m d) ∧ m ≤ 13 ∧ xs.length = m ∧ OwnL w' w.heap.size (some ⟨c, 0, none⟩) d xs ∧ q ≤ t + 600 ∧ Src w' B a n ca zs q ∧ w.grownBy w' (some B) := by
  have hBw : B < w.heap.size := hs.1.1
  go_enter Try.func61, Try.ntmps61
  have O := OwnL.lit w [] [] rfl (by decide)
  replace O := O.kept (belowA (w.alloc (.cells [].toArray 27)) (.cells #[.int .i64 1, .int .i64 2, .int .i64 3, .int .i64 2, .int .i64 12, .int .i64 0, .int .i64 13] 2))
  have S := (hs.kept (belowA w (.cells #[] 27))).kept (belowA (w.alloc (.cells #[] 27)) (.cells #[.int .i64 1, .int .i64 2, .int .i64 3, .int .i64 2, .int .i64 12, .int .i64 0, .int .i64 13] 2))
  have G := grown_alloc (grown_alloc (World.grownBy.refl w (some B)) (.cells #[] 27)) (.cells #[.int .i64 1, .int .i64 2, .int .i64 3, .int .i64 2, .int .i64 12, .int .i64 0, .int .i64 13] 2)
  go_wp2_with fail
  refine (l1Pick_ok B a n ca zs t (w.heap.size + 1) 7 7 [1, 2, 3, 2, 12, 0, 13] _ S hb hn hx (by omega) rfl (by omega) (by omega) (fun i hi => ?_) (by omega)).mono ?_
  · have h := lit_cells (w.alloc (.cells #[] 27)) [1, 2, 3, 2, 12, 0, 13] #[.int .i64 1, .int .i64 2, .int .i64 3, .int .i64 2, .int .i64 12, .int .i64 0, .int .i64 13] 2 rfl i hi
    simpa only [World.size_alloc] using h
  rintro e w1 ⟨x, rfl, hmem, S1, g1⟩
  have hx1 : 0 ≤ x ∧ x ≤ 13 := by
    simp at hmem
    rcases hmem with rfl | rfl | rfl | rfl | rfl | rfl | rfl <;> omega
  obtain ⟨x1, x2⟩ := hx1
  obtain ⟨m, rfl⟩ := Int.eq_ofNat_of_zero_le x1
  have hm13 : m ≤ 13 := by omega
  clear hmem x1 x2
  replace O := O.grown g1 (fun b hb => by simp at hb; subst hb; simp; omega)
  replace G := grownBy_trans G g1
  have G' := Hid.mk G
  have S' := Hid.mk S1
  have O' := Hid.mk O
  clear G S S1 O g1 hs
  go_wp2
  go_loopw [3, 4] (fun v i wr => ∃ (j d c : Nat) (xs : List S9) (q : Nat), j ≤ m ∧ i = .int .i64 ((m : Int) - (j : Int)) ∧ v = .slice (some ⟨c, 0, none⟩) j d ∧ xs.length = j ∧ OwnL wr w.heap.size (some ⟨c, 0, none⟩) d xs ∧ q ≤ t + 1 + 40 * j ∧ Src wr B a n ca zs q ∧ w.grownBy wr (some B)) (fun _ i _ => (intOf i).toNat)
  case atStart => exact ⟨0, _, _, [], t + 1, Nat.zero_le _, by simp, rfl, rfl, O'.out, by omega, S'.out, G'.out⟩
  case round =>
    clear G' S' O'
    obtain ⟨j, d, c, xs, q, hj, rfl, rfl, hl, O, hq, S, G⟩ := hrel
    by_cases hlt : j < m
    · have hk1 : 0 < (m : Int) - (j : Int) := by omega
      have hl' := Hid.mk hl
      clear hl
      go_wp2_with fail
      refine (l3Sel_ok B a n ca zs q _ S hb hn hx (by omega)).mono ?_
      rintro e w2 ⟨xa, xb, xc, xd, xe, xf, xg, xh, xr, q2, rfl, hq2, S2, g2⟩
      replace O := O.grown g2 (fun b hb => by have := (O.lt b hb).1; simp; omega)
      replace G := grownBy_trans G g2
      have hsz := G.size
      replace S2 := S2.kept (belowA w2 (.cells #[.int .i64 xa, .int .i64 xb, .int .i64 xc, .int .i64 xd, .int .i64 xe, .int .i64 xf, .int .i64 xg, .int .i64 xh, .int .i64 xr] 27))
      replace O := O.kept (belowA w2 (.cells #[.int .i64 xa, .int .i64 xb, .int .i64 xc, .int .i64 xd, .int .i64 xe, .int .i64 xf, .int .i64 xg, .int .i64 xh, .int .i64 xr] 27))
      replace G := grown_alloc G (.cells #[.int .i64 xa, .int .i64 xb, .int .i64 xc, .int .i64 xd, .int .i64 xe, .int .i64 xf, .int .i64 xg, .int .i64 xh, .int .i64 xr] 27)
      have TL := G.size
      replace G := Hid.mk G
      replace S2 := Hid.mk S2
      clear S g2
      go_wp2_with (at_builtin; go_loud (refine wpList_putL _ rfl _ _ rfl w.heap.size (some ⟨c, 0, none⟩) d xs j hl'.out rfl O _ 1 ⟨xa, xb, xc, xd, xe, xf, xg, xh, xr⟩ rfl (newCells _ _ (rowV ⟨xa, xb, xc, xd, xe, xf, xg, xh, xr⟩)) (by omega) TL ?_))
      intro c4 d4 w4 O4 hg4 hx4
      obtain ⟨c5, rfl, _, _⟩ := hx4.out
      replace S2 := S2.out.grownAway hg4 (fun k hk => by have := (O.lt ⟨c, 0, none⟩ rfl).1; simp at hk this; omega)
      replace G := grownOwn G.out hg4 (fun k hk => by have := (O.lt ⟨c, 0, none⟩ rfl).1; simp at hk this; omega)
      have hl4 : (xs ++ [(⟨xa, xb, xc, xd, xe, xf, xg, xh, xr⟩ : S9)]).length = j + 1 := by rw [List.length_append, hl'.out]; rfl
      replace O4 := Hid.mk O4
      replace S2 := Hid.mk S2
      replace G := Hid.mk G
      replace hl4 := Hid.mk hl4
      clear O hg4 hx4 TL
      go_wp2
      go_roundw
      case rel => exact ⟨j + 1, d4, c5, _, q2, by omega, by go_num, rfl, hl4.out, O4.out, by omega, S2.out, G.out⟩
      case measure => simp [intOf]; omega
    · obtain rfl : j = m := by omega
      have hz : (j : Int) - (j : Int) ≤ 0 := by omega
      have hz2 : (j : Int) - (j : Int) = 0 := by omega
      rw [hz2]
      clear hz hz2 hlt hj
      by_cases h0 : j = 0
      · subst h0
        have O' := Hid.mk O
        have S' := Hid.mk S
        have G' := Hid.mk G
        have hl' := Hid.mk hl
        clear O S G hl
        go_wp2
        go_ret
        exact ⟨c, d, 0, xs, q, rfl, by omega, hl'.out, O'.out, by omega, S'.out, G'.out⟩
      · have hp : 0 < (j : Int) := by omega
        have hl' := Hid.mk hl
        have O' := Hid.mk O
        clear hl O
        go_wp2_with fail
        refine (l1Chance_ok B a n ca zs q 8 _ S hb hn hx (by omega) (by omega)).mono ?_
        rintro e w2 ⟨v, rfl, S2, g2⟩
        have O := O'.out.grown g2 (fun b hb => by have := (O'.out.lt b hb).1; simp; omega)
        replace G := grownBy_trans G g2
        clear O' S g2
        cases v
        · have O' := Hid.mk O
          have S' := Hid.mk S2
          have G' := Hid.mk G
          clear O S2 G
          go_wp2
          go_ret
          exact ⟨c, d, j, xs, q + 1, rfl, by omega, hl'.out, O'.out, by omega, S'.out, G'.out⟩
        · have O' := Hid.mk O
          clear O
          go_wp2_with fail
          refine (l3Bent_ok B a n ca zs (q + 1) _ S2 hb hn hx (by omega)).mono ?_
          rintro e w3 ⟨xa, xb, xc, xd, xe, xf, xg, xh, xr, q3, rfl, hq3, S3, g3⟩
          have O := O'.out.grown g3 (fun b hb => by have := (O'.out.lt b hb).1; simp; omega)
          replace G := grownBy_trans G g3
          clear O' S2 g3
          have hcw := (O.lt ⟨c, 0, none⟩ rfl).1
          simp only at hcw
          have hL := hl'.out
          have hR := O.rd
          have hown := O
          unfold OwnL at hown
          rw [hL] at hown
          have zF := fun o => hown.frozenAt o
          have HN := Hid.mk (stored9 hown 0 ⟨xa, xb, xc, xd, xe, xf, xg, xh, xr⟩)
          rcases hR with hR | ⟨b1, o1, hbo, hca⟩
          · rw [hR] at hL; simp at hL; omega
          simp only [Option.some.injEq, Addr.mk.injEq, and_true] at hbo
          obtain ⟨rfl, rfl⟩ := hbo
          obtain ⟨y, hy⟩ : ∃ y, xs.getD 0 z9 = y := ⟨_, rfl⟩
          obtain ⟨p0, p1, p2, p3, p4, p5, p6, p7, p8⟩ := RdL.nine hca 0 (by omega) y hy
          simp only [Nat.zero_mul, Nat.zero_add, Nat.add_zero] at p0 p1 p2 p3 p4 p5 p6 p7 p8
          have S' := Hid.mk S3
          have G' := Hid.mk G
          have HL := Hid.mk hL
          have HX := Hid.mk (set9_flat xs 0 ⟨xa, xb, xc, xd, xe, xf, xg, xh, xr⟩ (by omega))
          have hj0 : 0 < j := by omega
          clear hca hy hown O S3 G hL h0
          go_wp2
          go_ret
          refine ⟨c, d, j, xs.set 0 ⟨xa, xb, xc, xd, xe, xf, xg, xh, xr⟩, q3, rfl, by omega, by simp [HL.out], ?_, by omega, ?_, ?_⟩
          · have h := HN.out
            rw [HX.out] at h
            unfold OwnL
            rw [List.length_set, HL.out]
            simpa only [Nat.zero_mul, Nat.zero_add] using h
          · exact (((((((((S'.out.other (by simp; omega) _).other (by simp; omega) _).other (by simp; omega) _).other (by simp; omega) _).other (by simp; omega) _).other (by simp; omega) _).other (by simp; omega) _).other (by simp; omega) _).other (by simp; omega) _)
          · have hsz := G'.out.size
            exact (grownSet' (grownSet' (grownSet' (grownSet' (grownSet' (grownSet' (grownSet' (grownSet' (grownSet' G'.out (by simp; omega) _) (by simp; omega) _) (by simp; omega) _) (by simp; omega) _) (by simp; omega) _) (by simp; omega) _) (by simp; omega) _) (by simp; omega) _) (by simp; omega) _)

end Go.Proofs.Ytmbkbbephmblmaa
