/- The draws of policies. -/
import Derived.Test.YtngkahchhioncaaDoorDSel2
import Derived.Test.YtngkahchhioncaaDoorRuleA
import Derived.Test.YtngkahchhioncaaDoorDrawL
import Derived.Test.YtngkahchhioncaaDoorFill
namespace Go.Proofs.YtngkahchhioncaaDoor
open Go.RowKit

theorem grownOwnR {w wr w1 : World} {B : Nat} {row : Option Nat} (h : w.grownBy wr (some B)) (hg : wr.grownBy w1 row) (hr : ∀ k, row = some k → w.heap.size ≤ k) : w.grownBy w1 (some B) := by
  refine ⟨hg.os.trans h.os, hg.tape.trans h.tape, hg.output.trans h.output, Nat.le_trans h.size hg.size, fun i hi hr' => ?_⟩
  have h2 := h.size
  rw [hg.block i (by omega) (fun e => by have := hr i e.symm; omega)]
  exact h.block i hi hr'

theorem build_rul (x : S9) (p : Int) (w : World) : (Instr.build 34 #[(0, .agg #[.int .i64 x.a, .int .i64 x.b, .int .i64 x.c, .int .i64 x.d, .int .i64 x.e, .int .i64 x.f, .int .i64 x.g, .int .i64 x.h, .int .i64 x.r]), (1, .int .i64 p)]).run Tryd.prog w = .ok (.agg #[.int .i64 x.a, .int .i64 x.b, .int .i64 x.c, .int .i64 x.d, .int .i64 x.e, .int .i64 x.f, .int .i64 x.g, .int .i64 x.h, .int .i64 x.r, .int .i64 p, .int .i64 0]) w := run_build w 34 _ _ (by kernel_rfl)

set_option maxRecDepth 20000 in
set_option maxHeartbeats 4000000 in
theorem l4Policy_ok (B : Nat) (a : Option Addr) (n ca : Nat) (zs : List Int) (t m : Nat) (w : World) (hs : Src w B a n ca zs t) (hb : Bytes zs) (hn : zs.length = n) (hx : n ≤ 1048577) (ht : t ≤ 1000) (hm : m ≤ 20) :
    Calls Tryd.prog 109 #[.pointer (some ⟨B, 0, none⟩), .int .i64 m] w fun e w' => ∃ (c d : Nat) (xs : List R11) (q : Nat), e = .returned (.slice (some ⟨c, 0, none⟩) m d) ∧ xs.length = m ∧ OwnRule w' w.heap.size (some ⟨c, 0, none⟩) d xs ∧ q ≤ t + 42 * m ∧ Src w' B a n ca zs q ∧ w.grownBy w' (some B) := by
  have hBw : B < w.heap.size := hs.1.1
  have qb := build_rul
  go_enter Tryd.func109, Tryd.ntmps109
  have O := Hid.mk (OwnRule.lit w [] [] rfl (by decide))
  have S := Hid.mk (hs.kept (belowA w (.cells #[] 34)))
  have G := Hid.mk (grown_alloc (World.grownBy.refl w (some B)) (.cells #[] 34))
  clear hs
  go_wp2
  go_loopw [1, 5] (fun i v wr => ∃ (j d c : Nat) (xs : List R11) (q : Nat), j ≤ m ∧ i = .int .i64 ((m : Int) - (j : Int)) ∧ v = .slice (some ⟨c, 0, none⟩) j d ∧ xs.length = j ∧ OwnRule wr w.heap.size (some ⟨c, 0, none⟩) d xs ∧ q ≤ t + 42 * j ∧ Src wr B a n ca zs q ∧ w.grownBy wr (some B)) (fun i _ _ => (intOf i).toNat)
  case atStart => exact ⟨0, 0, _, [], t, Nat.zero_le _, by simp, rfl, rfl, O.out, by omega, S.out, G.out⟩
  case round =>
    clear O S G
    obtain ⟨j, d, c, xs, q, hj, rfl, rfl, hl, O, hq, S, G⟩ := hrel
    by_cases hlt : j < m
    · have hk1 : 0 < (m : Int) - (j : Int) := by omega
      have hl' := Hid.mk hl
      clear hl
      go_wp2_with fail
      refine (l3Sel_ok B a n ca zs q _ S hb hn hx (by omega)).mono ?_
      rintro e w2 ⟨xa, xb, xc, xd, xe, xf, xg, xh, xr, q2, rfl, hq2, S2, g2⟩
      replace O := O.grown g2 (fun b hb => by have := (O.lt b hb).1; simp; omega)
      replace G := grownBy_trans G g2
      obtain ⟨x, hxs⟩ : ∃ x : S9, x = ⟨xa, xb, xc, xd, xe, xf, xg, xh, xr⟩ := ⟨_, rfl⟩
      obtain ⟨rfl, rfl, rfl, rfl, rfl, rfl, rfl, rfl, rfl⟩ : x.a = xa ∧ x.b = xb ∧ x.c = xc ∧ x.d = xd ∧ x.e = xe ∧ x.f = xf ∧ x.g = xg ∧ x.h = xh ∧ x.r = xr := by subst hxs; exact ⟨rfl, rfl, rfl, rfl, rfl, rfl, rfl, rfl, rfl⟩
      clear hxs g2 S
      go_wp2_with fail
      refine (l1Next_ok B a n ca zs q2 3 _ S2 hb hn hx (by omega) (by omega)).mono ?_
      rintro e w3 ⟨v, rfl, hv, _, S3, g3⟩
      obtain ⟨hv1, hv2⟩ := hv (by omega)
      replace O := O.grown g3 (fun b hb => by have := (O.lt b hb).1; simp; omega)
      replace G := grownBy_trans G g3
      clear S2 g3
      obtain ⟨p, hp⟩ : ∃ p, 1 + v = p := ⟨_, rfl⟩
      have hcw := O.lt ⟨c, 0, none⟩ rfl
      simp only at hcw
      have hGz := G.size
      have VR := V.new w3 [.int .i64 x.a, .int .i64 x.b, .int .i64 x.c, .int .i64 x.d, .int .i64 x.e, .int .i64 x.f, .int .i64 x.g, .int .i64 x.h, .int .i64 x.r, .int .i64 p, .int .i64 0] 34
      replace S3 := S3.kept (belowA w3 (.cells #[.int .i64 x.a, .int .i64 x.b, .int .i64 x.c, .int .i64 x.d, .int .i64 x.e, .int .i64 x.f, .int .i64 x.g, .int .i64 x.h, .int .i64 x.r, .int .i64 p, .int .i64 0] 34))
      replace O := O.kept (belowA w3 (.cells #[.int .i64 x.a, .int .i64 x.b, .int .i64 x.c, .int .i64 x.d, .int .i64 x.e, .int .i64 x.f, .int .i64 x.g, .int .i64 x.h, .int .i64 x.r, .int .i64 p, .int .i64 0] 34))
      replace G := grown_alloc G (.cells #[.int .i64 x.a, .int .i64 x.b, .int .i64 x.c, .int .i64 x.d, .int .i64 x.e, .int .i64 x.f, .int .i64 x.g, .int .i64 x.h, .int .i64 x.r, .int .i64 p, .int .i64 0] 34)
      by_cases h3 : p = 3
      · have hp3 : (p == 3) = true := by simp [h3]
        clear h3
        obtain ⟨s_VR, f_VR, z_VR⟩ := VR.open
        replace O := Hid.mk O
        go_wp2_with fail
        refine (l1Next_ok B a n ca zs (q2 + 1) 3 _ S3 hb hn hx (by omega) (by omega)).mono ?_
        rintro e w4 ⟨u, rfl, hu, _, S4, g4⟩
        obtain ⟨hu1, hu2⟩ := hu (by omega)
        clear s_VR f_VR z_VR
        replace VR := VR.grownB g4 (by omega)
        replace O := O.out.grown g4 (fun b hb => by have := (O.out.lt b hb).1; simp; omega)
        replace G := grownBy_trans G g4
        have hz4 := g4.size
        simp only [World.size_alloc] at hz4
        clear S3 g4
        obtain ⟨y, hy⟩ : ∃ y, 1 + u = y := ⟨_, rfl⟩
        obtain ⟨s_VR, f_VR, z_VR⟩ := VR.open
        have S3 := S4.other (p := ⟨w3.heap.size, 10, none⟩) (by simp; omega) (.int .i64 y)
        replace O := O.away (p := ⟨w3.heap.size, 10, none⟩) (fun b hb => by simp at hb; subst hb; simp; omega) (.int .i64 y)
        replace G := grownSet' G (p := ⟨w3.heap.size, 10, none⟩) (by simp; omega) (.int .i64 y)
        clear S4
        replace S3 := S3.kept (belowA (w4.setCell ⟨w3.heap.size, 10, none⟩ (.int .i64 y)) (.cells #[.int .i64 x.a, .int .i64 x.b, .int .i64 x.c, .int .i64 x.d, .int .i64 x.e, .int .i64 x.f, .int .i64 x.g, .int .i64 x.h, .int .i64 x.r, .int .i64 p, .int .i64 y] 34))
        replace O := O.kept (belowA (w4.setCell ⟨w3.heap.size, 10, none⟩ (.int .i64 y)) (.cells #[.int .i64 x.a, .int .i64 x.b, .int .i64 x.c, .int .i64 x.d, .int .i64 x.e, .int .i64 x.f, .int .i64 x.g, .int .i64 x.h, .int .i64 x.r, .int .i64 p, .int .i64 y] 34))
        replace G := grown_alloc G (.cells #[.int .i64 x.a, .int .i64 x.b, .int .i64 x.c, .int .i64 x.d, .int .i64 x.e, .int .i64 x.f, .int .i64 x.g, .int .i64 x.h, .int .i64 x.r, .int .i64 p, .int .i64 y] 34)
        have TL := G.size
        replace G := Hid.mk G
        replace S3 := Hid.mk S3
        go_wp2_with (at_builtin; go_loud (refine wpList_putRule _ rfl _ _ rfl w.heap.size (some ⟨c, 0, none⟩) d xs j hl'.out rfl O _ 1 ⟨x, p, y⟩ rfl (fun j u hu => by have h := newCells (w4.setCell ⟨w3.heap.size, 10, none⟩ (.int .i64 y)) 34 (rowRule ⟨x, p, y⟩) j u hu; simp only [World.size_setCell] at h; exact h) (by omega) TL ?_))
        intro c4 d4 w5 O5 hg5 hx5
        obtain ⟨c5, rfl, _, _⟩ := hx5.out
        replace S3 := S3.out.grownAway hg5 (fun k hk => by simp at hk; omega)
        replace G := grownOwnR G.out hg5 (fun k hk => by simp at hk; omega)
        have hl5 : (xs ++ [(⟨x, p, y⟩ : R11)]).length = j + 1 := by rw [List.length_append, hl'.out]; rfl
        replace O5 := Hid.mk O5
        replace S3 := Hid.mk S3
        replace G := Hid.mk G
        replace hl5 := Hid.mk hl5
        clear O hg5 hx5 TL
        go_wp2
        go_roundw
        case rel => exact ⟨j + 1, d4, c5, _, q2 + 1 + 1, by omega, by go_num, rfl, hl5.out, O5.out, by omega, S3.out, G.out⟩
        case measure => simp [intOf]; omega
      · have hp3 : (p == 3) = false := by simp [h3]
        clear h3
        obtain ⟨s_VR, f_VR, z_VR⟩ := VR.open
        replace S3 := S3.kept (belowA (w3.alloc (.cells #[.int .i64 x.a, .int .i64 x.b, .int .i64 x.c, .int .i64 x.d, .int .i64 x.e, .int .i64 x.f, .int .i64 x.g, .int .i64 x.h, .int .i64 x.r, .int .i64 p, .int .i64 0] 34)) (.cells #[.int .i64 x.a, .int .i64 x.b, .int .i64 x.c, .int .i64 x.d, .int .i64 x.e, .int .i64 x.f, .int .i64 x.g, .int .i64 x.h, .int .i64 x.r, .int .i64 p, .int .i64 0] 34))
        replace O := O.kept (belowA (w3.alloc (.cells #[.int .i64 x.a, .int .i64 x.b, .int .i64 x.c, .int .i64 x.d, .int .i64 x.e, .int .i64 x.f, .int .i64 x.g, .int .i64 x.h, .int .i64 x.r, .int .i64 p, .int .i64 0] 34)) (.cells #[.int .i64 x.a, .int .i64 x.b, .int .i64 x.c, .int .i64 x.d, .int .i64 x.e, .int .i64 x.f, .int .i64 x.g, .int .i64 x.h, .int .i64 x.r, .int .i64 p, .int .i64 0] 34))
        replace G := grown_alloc G (.cells #[.int .i64 x.a, .int .i64 x.b, .int .i64 x.c, .int .i64 x.d, .int .i64 x.e, .int .i64 x.f, .int .i64 x.g, .int .i64 x.h, .int .i64 x.r, .int .i64 p, .int .i64 0] 34)
        have TL := G.size
        replace G := Hid.mk G
        replace S3 := Hid.mk S3
        go_wp2_with (at_builtin; go_loud (refine wpList_putRule _ rfl _ _ rfl w.heap.size (some ⟨c, 0, none⟩) d xs j hl'.out rfl O _ 1 ⟨x, p, 0⟩ rfl (fun j u hu => by have h := newCells (w3.alloc (.cells #[.int .i64 x.a, .int .i64 x.b, .int .i64 x.c, .int .i64 x.d, .int .i64 x.e, .int .i64 x.f, .int .i64 x.g, .int .i64 x.h, .int .i64 x.r, .int .i64 p, .int .i64 0] 34)) 34 (rowRule ⟨x, p, 0⟩) j u hu; simp only [World.size_alloc] at h; exact h) (by omega) TL ?_))
        intro c4 d4 w5 O5 hg5 hx5
        obtain ⟨c5, rfl, _, _⟩ := hx5.out
        replace S3 := S3.out.grownAway hg5 (fun k hk => by simp at hk; omega)
        replace G := grownOwnR G.out hg5 (fun k hk => by simp at hk; omega)
        have hl5 : (xs ++ [(⟨x, p, 0⟩ : R11)]).length = j + 1 := by rw [List.length_append, hl'.out]; rfl
        replace O5 := Hid.mk O5
        replace S3 := Hid.mk S3
        replace G := Hid.mk G
        replace hl5 := Hid.mk hl5
        clear O hg5 hx5 TL
        go_wp2
        go_roundw
        case rel => exact ⟨j + 1, d4, c5, _, q2 + 1, by omega, by go_num, rfl, hl5.out, O5.out, by omega, S3.out, G.out⟩
        case measure => simp [intOf]; omega
    · obtain rfl : j = m := by omega
      have hz : (j : Int) - (j : Int) ≤ 0 := by omega
      have hz2 : (j : Int) - (j : Int) = 0 := by omega
      rw [hz2]
      have O' := Hid.mk O
      have S' := Hid.mk S
      have G' := Hid.mk G
      have hl' := Hid.mk hl
      clear O S G hl hz hz2 hlt hj
      go_wp2
      go_ret
      exact ⟨c, d, xs, q, rfl, hl'.out, O'.out, hq, S'.out, G'.out⟩

end Go.Proofs.YtngkahchhioncaaDoor
