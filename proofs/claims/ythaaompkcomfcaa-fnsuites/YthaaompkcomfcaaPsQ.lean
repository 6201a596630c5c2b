/- The draws of lists of suites. -/
import Derived.Test.YthaaompkcomfcaaPsP
namespace Go.Proofs.Ythaaompkcomfcaa
open Go.RowKit

/-- What the draw of a list leaves. -/
def ListD (B : Nat) (a : Option Addr) (n ca : Nat) (zs : List Int) (t : Nat) (w : World) (e : Ending) (w' : World) : Prop :=
  ∃ (c : Option Addr) (d k : Nat) (xs : List Su) (q : Nat), e = .returned (.slice c k d) ∧ xs.length = k ∧ k ≤ 11 ∧ OwnSuite w' w.heap.size c d xs ∧ q ≤ t + 60 ∧ Src w' B a n ca zs q ∧ w.grownBy w' (some B)

set_option maxRecDepth 20000 in
set_option maxHeartbeats 8000000 in
theorem l8List_ok (B : Nat) (a : Option Addr) (n ca : Nat) (zs : List Int) (t : Nat) (w : World) (hs : Src w B a n ca zs t) (hb : Bytes zs) (hn : zs.length = n) (hx : n ≤ 1048577) (ht : t ≤ 800) :
    Calls Try.prog 63 #[.pointer (some ⟨B, 0, none⟩)] w (ListD B a n ca zs t w) := by
  have hBw : B < w.heap.size := hs.1.1
  go_enter Try.func63, Try.ntmps63
  have O := Hid.mk (OwnSuite.lit w [] [] rfl (Nat.zero_le _))
  have S := hs.kept (belowA w (.cells #[] 28))
  have G := grown_alloc (World.grownBy.refl w (some B)) (.cells #[] 28)
  clear hs
  have S1' := S.kept (belowA (w.alloc (.cells #[] 28)) (.cells #[.int .i64 1, .int .i64 2, .int .i64 3, .int .i64 4, .int .i64 6] 2))
  clear S
  replace O := Hid.mk (O.out.kept (belowA (w.alloc (.cells #[] 28)) (.cells #[.int .i64 1, .int .i64 2, .int .i64 3, .int .i64 4, .int .i64 6] 2)))
  replace G := grown_alloc G (.cells #[.int .i64 1, .int .i64 2, .int .i64 3, .int .i64 4, .int .i64 6] 2)
  have hbw2 : w.heap.size + 1 ≠ B := by have h9 := G.size; (try simp only [World.size_alloc] at h9); (try simp only [World.size_alloc]); omega
  go_wp2_with fail
  refine (l1Pick_ok B a n ca zs (t) (w.heap.size + 1) 5 5 [1, 2, 3, 4, 6] _ S1' hb hn hx (by omega) rfl (by omega) (by omega) (fun i hi => ?_) hbw2).mono ?_
  · have h := lit_cells (w.alloc (.cells #[] 28)) [1, 2, 3, 4, 6] #[.int .i64 1, .int .i64 2, .int .i64 3, .int .i64 4, .int .i64 6] 2 (by simp) i hi
    simp only [World.size_alloc] at h
    exact h
  rintro e w2 ⟨x2, rfl, hm2, S2, g2⟩
  replace O := Hid.mk (O.out.grown g2 (fun b hb => by have := (O.out.lt b hb).1; simp; omega))
  replace G := grownBy_trans G g2
  have Z2 := g2.size
  try simp only [World.size_alloc] at Z2
  clear S1' g2
  have hm : 1 ≤ x2 ∧ x2 ≤ 6 := by simp only [List.mem_cons, List.not_mem_nil, or_false] at hm2; omega
  obtain ⟨mm, hmm⟩ : ∃ mm : Nat, x2 = (mm : Int) := ⟨x2.toNat, by omega⟩
  subst hmm
  clear hm2
  replace G := Hid.mk G
  have S0 := Hid.mk S2
  clear S2
  go_wp2
  go_loopw [3, 4] (fun o i wr => ∃ (m j d q : Nat) (c : Option Addr) (xs : List Su), i = .int .i64 m ∧ o = .slice c j d ∧ m ≤ 6 ∧ xs.length = j ∧ j + m ≤ 6 ∧ (j = 0 → 1 ≤ m) ∧ OwnSuite wr w.heap.size c d xs ∧ q + 4 * m ≤ t + 26 ∧ Src wr B a n ca zs q ∧ w.grownBy wr (some B)) (fun _ i _ => (intOf i).toNat)
  case atStart => exact ⟨mm, 0, 0, _, _, [], rfl, rfl, by omega, rfl, by omega, fun _ => by omega, O.out, by omega, S0.out, G.out⟩
  case round =>
    clear O S0 G
    obtain ⟨m, j, d, q, c, xs, rfl, rfl, hm6, hj, hjm, hj0, O, hq, S, G⟩ := hrel
    have GZ := G.size
    have HJ := Hid.mk hj
    by_cases hm0 : 0 < m
    · have hmi : (0 : Int) < (m : Int) := by omega
      have OLT := Hid.mk O.lt
      go_wp2_with fail
      refine (l8Suite_ok B a n ca zs q _ S hb hn hx (by omega)).mono ?_
      rintro e w1 ⟨x, rfl, S1, g1⟩
      have O1 := O.grown g1 (fun b hb => by have := (OLT.out b hb).1; simp; omega)
      have G1 := grownBy_trans G g1
      have Z1 := g1.size
      clear S g1 O G
      have VX := V.new w1 [.int .i64 x.c, .int .i64 x.b, .int .i64 x.m, .int .i64 x.g] 28
      have O2 := O1.kept (belowA w1 (.cells #[.int .i64 x.c, .int .i64 x.b, .int .i64 x.m, .int .i64 x.g] 28))
      have S2 := S1.kept (belowA w1 (.cells #[.int .i64 x.c, .int .i64 x.b, .int .i64 x.m, .int .i64 x.g] 28))
      have G2 := grown_alloc G1 (.cells #[.int .i64 x.c, .int .i64 x.b, .int .i64 x.m, .int .i64 x.g] 28)
      have CC := Hid.mk (fun w h => l8Has_ok c j d xs x w h hj (by unfold maxLen; omega))
      clear O1 S1 G1 hj
      have hemp : hasSu xs x = true → 1 ≤ j := fun h => by rw [← HJ.out]; exact List.length_pos_of_mem (hasSu_iff.1 h)
      obtain ⟨s_VX, f_VX, z_VX⟩ := VX.open
      cases hg : hasSu xs x
      · simp only [hg] at CC
        clear hg hemp
        go_wp2_with fail
        refine (CC.out _ O2.rd).mono ?_
        rintro e w3 ⟨rfl, b3⟩
        have VX3 := VX.kept b3
        have O3 := Hid.mk (O2.kept b3)
        have S3 := Hid.mk (S2.kept b3)
        have G3 := Hid.mk (suGrown G2 (Below.grownBy b3 none) (fun q hq => by cases hq))
        have Z3 := b3.size
        simp only [World.size_alloc] at Z3
        clear VX O2 S2 G2 b3 CC s_VX f_VX z_VX
        obtain ⟨s_VX, f_VX, z_VX⟩ := VX3.open
        have O5 := Hid.mk (O3.out.kept (belowA w3 (.cells #[.int .i64 x.c, .int .i64 x.b, .int .i64 x.m, .int .i64 x.g] 28)))
        have S5 := Hid.mk (S3.out.kept (belowA w3 (.cells #[.int .i64 x.c, .int .i64 x.b, .int .i64 x.m, .int .i64 x.g] 28)))
        have G5 := Hid.mk (grown_alloc G3.out (.cells #[.int .i64 x.c, .int .i64 x.b, .int .i64 x.m, .int .i64 x.g] 28))
        have VY := V.new w3 [.int .i64 x.c, .int .i64 x.b, .int .i64 x.m, .int .i64 x.g] 28
        have HNC := Hid.mk (suNews VY)
        have hb4 : w.heap.size ≤ (w3.alloc (.cells #[.int .i64 x.c, .int .i64 x.b, .int .i64 x.m, .int .i64 x.g] 28)).heap.size := by rw [World.size_alloc]; omega
        clear O3 S3 G3 VY
        go_wp2_with (at_builtin; go_loud (refine wpList_putSuite _ rfl _ _ rfl w.heap.size c d xs j HJ.out rfl O5.out ⟨w3.heap.size, 0, none⟩ 1 x rfl HNC.out (by omega) hb4 ?_))
        intro c6 d6 w6 O6 hg6 _
        have O6' := Hid.mk O6
        have S6 := Hid.mk (S5.out.grownAway hg6 (fun q hq => by cases c with | none => cases hq | some b => simp at hq; have := (OLT.out b rfl).1; omega))
        have G6 := Hid.mk (suGrown G5.out hg6 (fun q hq => by cases c with | none => cases hq | some b => simp at hq; have := (OLT.out b rfl).1; omega))
        have HJ6 : Hid ((xs ++ [x]).length = j + 1) := Hid.mk (by rw [List.length_append, HJ.out]; rfl)
        clear O6 hg6 O5 S5 G5 HNC
        go_wp2
        go_roundw
        case rel => exact ⟨m - 1, j + 1, d6, _, c6, xs ++ [x], by go_num, rfl, by omega, HJ6.out, by omega, fun h => by omega, O6'.out, by omega, S6.out, G6.out⟩
        case measure => simp [intOf]; omega
      · simp only [hg] at CC
        have hj1 := hemp hg
        clear hg hemp
        go_wp2_with fail
        refine (CC.out _ O2.rd).mono ?_
        rintro e w3 ⟨rfl, b3⟩
        have VX3 := VX.kept b3
        have O3 := Hid.mk (O2.kept b3)
        have S3 := Hid.mk (S2.kept b3)
        have G3 := Hid.mk (suGrown G2 (Below.grownBy b3 none) (fun q hq => by cases hq))
        have Z3 := b3.size
        simp only [World.size_alloc] at Z3
        clear VX O2 S2 G2 b3 CC s_VX f_VX z_VX
        obtain ⟨s_VX, f_VX, z_VX⟩ := VX3.open
        go_wp2
        go_roundw
        case rel => exact ⟨m - 1, j, d, _, c, xs, by go_num, rfl, by omega, HJ.out, by omega, fun h => by omega, O3.out, by omega, S3.out, G3.out⟩
        case measure => simp [intOf]; omega
    · have hmz : m = 0 := by omega
      subst hmz
      have hj1 : 1 ≤ j := by omega
      have hji : (0 : Int) < (j : Int) := by omega
      obtain ⟨g, rfl⟩ := ownSuite_some O (by rw [hj]; omega)
      have hGl := O.lt _ rfl
      simp only at hGl
      have O' := Hid.mk O
      clear O hj
      go_wp2_with fail
      refine (l1Next_ok B a n ca zs (q) 20 _ S hb hn hx (by omega) (by omega)).mono ?_
      rintro e w51 ⟨v51, rfl, hv, _, S51, g51⟩
      obtain ⟨hl51, hu51⟩ := hv (by omega)
      clear hv
      replace O' := Hid.mk (O'.out.grown g51 (fun b hb => by have := (O'.out.lt b hb).1; simp; omega))
      replace G := grownBy_trans G g51
      have Z51 := g51.size
      try simp only [World.size_alloc] at Z51
      clear S g51
      have hGw := (O'.out.lt _ rfl).2
      simp only at hGw
      rcases (by omega : v51 = 0 ∨ v51 = 1 ∨ v51 = 2 ∨ v51 = 3 ∨ 4 ≤ v51) with rfl | rfl | rfl | rfl | hge
      · go_wp2_with fail
        refine (l8Bent_ok B a n ca zs (q + 1) _ S51 hb hn hx (by omega)).mono ?_
        rintro e w60 ⟨y, q2, rfl, hq2, S60, g60⟩
        have O6 := O'.out.grown g60 (fun b hb => by have := (O'.out.lt b hb).1; simp; omega)
        have G6 := grownBy_trans G g60
        have Z60 := g60.size
        clear S51 g60 G O'
        have HT := Hid.mk (O6.there 0 (by rw [HJ.out]; omega))
        have OS := Hid.mk (O6.stroke 0 (by rw [HJ.out]; omega) y)
        have SS := Hid.mk (suSrc S60 (show B < g by omega) 0 [.int .i64 y.c, .int .i64 y.b, .int .i64 y.m, .int .i64 y.g])
        have GS := Hid.mk (suCells G6 (show w.heap.size ≤ g by omega) 0 [.int .i64 y.c, .int .i64 y.b, .int .i64 y.m, .int .i64 y.g])
        simp only [Nat.zero_mul] at HT
        clear O6 S60 G6
        go_wp2_with (refine wpList_store_mid rfl 28 _ _ rfl g 0 #[.int .i64 y.c, .int .i64 y.b, .int .i64 y.m, .int .i64 y.g] rfl rfl HT.out (by kernel_rfl) (by kernel_rfl) ?_)
        go_wp2
        go_ret
        refine ⟨some ⟨g, 0, none⟩, d, j, xs.set 0 y, q2, rfl, by rw [List.length_set]; exact HJ.out, by omega, ?_, by omega, SS.out, GS.out⟩
        have h := OS.out
        rw [Nat.zero_mul] at h
        exact h
      · obtain ⟨y, hy⟩ : ∃ y, xs.getD 0 zSuite = y := ⟨_, rfl⟩
        rcases O'.out.rd with h9 | ⟨b1, o1, e1, hca⟩
        · have := HJ.out; rw [h9] at this; simp at this; omega
        simp only [Option.some.injEq, Addr.mk.injEq, and_true] at e1
        obtain ⟨rfl, rfl⟩ := e1
        obtain ⟨p0, p1, p2, p3⟩ := RdSuite.cells hca 0 (by rw [HJ.out]; omega) y hy
        simp only [Nat.zero_add, Nat.zero_mul] at p0 p1 p2 p3
        clear hy hca
        have O5 := Hid.mk (O'.out.kept (belowA w51 (.cells #[.int .i64 y.c, .int .i64 y.b, .int .i64 y.m, .int .i64 y.g] 28)))
        have S5 := Hid.mk (S51.kept (belowA w51 (.cells #[.int .i64 y.c, .int .i64 y.b, .int .i64 y.m, .int .i64 y.g] 28)))
        have G5 := Hid.mk (grown_alloc G (.cells #[.int .i64 y.c, .int .i64 y.b, .int .i64 y.m, .int .i64 y.g] 28))
        have VY := V.new w51 [.int .i64 y.c, .int .i64 y.b, .int .i64 y.m, .int .i64 y.g] 28
        have HNC := Hid.mk (suNews VY)
        have hb4 : w.heap.size ≤ (w51.alloc (.cells #[.int .i64 y.c, .int .i64 y.b, .int .i64 y.m, .int .i64 y.g] 28)).heap.size := by rw [World.size_alloc]; omega
        clear O' S51 G VY
        go_wp2_with (at_builtin; go_loud (refine wpList_putSuite _ rfl _ _ rfl w.heap.size (some ⟨g, 0, none⟩) d xs j HJ.out rfl O5.out ⟨w51.heap.size, 0, none⟩ 1 y rfl HNC.out (by omega) hb4 ?_))
        intro c6 d6 w6 O6 hg6 _
        have O6' := Hid.mk O6
        have S6 := Hid.mk (S5.out.grownAway hg6 (fun q hq => by simp at hq; omega))
        have G6 := Hid.mk (suGrown G5.out hg6 (fun q hq => by simp at hq; omega))
        clear O6 hg6 O5 S5 G5 HNC
        go_wp2
        go_ret
        exact ⟨c6, d6, j + 1, xs ++ [y], q + 1, rfl, by rw [List.length_append, HJ.out]; rfl, by omega, O6'.out, by omega, S6.out, G6.out⟩
      · have S6 := Hid.mk S51
        have G6 := Hid.mk G
        clear S51 G
        go_wp2
        go_ret
        exact ⟨none, 0, 0, [], q + 1, rfl, rfl, by omega, OwnSuite.none, by omega, S6.out, G6.out⟩
      · have S' := Hid.mk S51
        have G' := Hid.mk G
        have hGz4 := G.size
        clear O' S51 G
        obtain ⟨i0, hi, hz0, hz1, hz2⟩ := info_parts Try.infoSuite
        go_wp2_with (at_make; refine wpList_make_full _ rfl _ _ 24 rfl w51.heap.size 28 i0 (.agg #[.int .i64 0, .int .i64 0, .int .i64 0, .int .i64 0]) 4 Try.underlying24 hi hz0 hz1 .i64 .i64 _ _ 11 rfl rfl rfl rfl (by rw [hz2]; omega) (by unfold maxLen; omega) (Nat.le_refl _) ?_)
        intro w5 hown hgrow
        have hown0 : w5.ownsRow w51.heap.size 28 4 (.slice (some ⟨w51.heap.size, 0, none⟩) 11 11) 11 (flatSuite (List.replicate 11 zSuite)) := by
          rw [zerosSuite, ← madeSuite]
          exact hown
        have OZ := Hid.mk (OwnSuite.mono (base' := w.heap.size) (show OwnSuite w5 w51.heap.size (some ⟨w51.heap.size, 0, none⟩) 11 (List.replicate 11 zSuite) by unfold OwnSuite; rw [List.length_replicate]; exact hown0) hGz4)
        have hbel : Below w51.heap.size w51 w5 := (Below.refl _ _).grown hgrow (Nat.le_refl _) (by intro k hk; cases hk)
        have S5 := Hid.mk (S'.out.kept hbel)
        have G5 := Hid.mk (grownBy_trans G'.out (Below.grownBy hbel _))
        clear hown hgrow hown0 hbel
        go_wp2
        go_ret
        exact ⟨some ⟨w51.heap.size, 0, none⟩, 11, 11, _, q + 1, rfl, List.length_replicate, by omega, OZ.out, by omega, S5.out, G5.out⟩
      · have hn0 : (v51 == 0) = false := by simp; omega
        have hn1 : (v51 == 1) = false := by simp; omega
        have hn2 : (v51 == 2) = false := by simp; omega
        have hn3 : (v51 == 3) = false := by simp; omega
        have S6 := Hid.mk S51
        have G6 := Hid.mk G
        clear S51 G
        go_wp2
        go_ret
        exact ⟨some ⟨g, 0, none⟩, d, j, xs, q + 1, rfl, HJ.out, by omega, O'.out, by omega, S6.out, G6.out⟩


end Go.Proofs.Ythaaompkcomfcaa
