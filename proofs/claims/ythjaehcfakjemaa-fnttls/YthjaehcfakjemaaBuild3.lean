/- 'BuildPacket' of the program. -/
import Derived.Test.YthjaehcfakjemaaBuild2
namespace Go.Proofs.Ythjaehcfakjemaa
open Go.RowKit
set_option maxRecDepth 40000

/-- The bytes of a right packet. -/
def buildP (f t r l x y : Int) (xs : List Int) : List Int := headP f t r l (20 + ((portP r x y).length : Int) + (xs.length : Int)) ++ (portP r x y ++ xs)

theorem length_buildP (f t r l x y : Int) (xs : List Int) : (buildP f t r l x y xs).length = 20 + (portP r x y).length + xs.length := by
  simp only [buildP, List.length_append, length_headP]; omega

theorem pfC_len {f t r l x y : Int} {n : Nat} (h : pfC f t r l x y n = 0) : n ≤ 200 := (pfC_zero h).2.2

set_option maxHeartbeats 2000000 in
theorem implBuildPacket_ok (f t r l x y : Int) (a : Option Addr) (n ca : Nat) (xs : List Int) (w : World) (hR : Rd .u8 w a xs) (hn : xs.length = n) (hnc : a = none → ca = 0) :
    Calls Try.prog 9 #[.agg #[.int .i64 f, .int .i64 t, .int .i64 r, .int .i64 l, .int .i64 x, .int .i64 y, .slice a n ca]] w fun e w' =>
      ∃ c d, e = .returned (.agg #[.int .i64 (pfC f t r l x y n), .slice c (zl (pfC f t r l x y n) (buildP f t r l x y xs)).length d]) ∧
        Own .u8 5 w' w.heap.size c d (zl (pfC f t r l x y n) (buildP f t r l x y xs)) ∧ Below w.heap.size w w' := by
  have C := Hid.mk (fun w => implPacketFault_ok f t r l x y a n ca w)
  by_cases hk : pfC f t r l x y n = 0
  · obtain ⟨hfit, hports, hn2⟩ := pfC_zero hk
    obtain ⟨hf, ht, hr, hl, hx, hy⟩ := fitP_iff.1 hfit
    have hpl := portP_len r x y
    have C1 := Hid.mk (fun w => portBytes_ok f t r l x y a n ca w hx hy)
    have C2 := Hid.mk (fun w => headBytes_ok f t r l x y (20 + ((portP r x y).length : Int) + (n : Int)) a n ca w hf ht (by omega) (by omega) (by omega))
    have hBd : Hid (buildP f t r l x y xs = headP f t r l (20 + ((portP r x y).length : Int) + (n : Int)) ++ (portP r x y ++ xs)) := by unfold Hid buildP; rw [hn]
    have hlen := length_buildP f t r l x y xs
    have hlh := Hid.mk (length_headP f t r l (20 + ((portP r x y).length : Int) + (n : Int)))
    rw [hk] at C ⊢
    simp only [zl_0]
    rw [hlen, hn]
    generalize headP f t r l (20 + ((portP r x y).length : Int) + (n : Int)) = H at *
    obtain ⟨pl, hp0⟩ : ∃ pl, (portP r x y).length = pl := ⟨_, rfl⟩
    rw [hp0] at C1 C2 hpl ⊢
    have hp := Hid.mk hp0
    clear hp0 hlen hfit hports hk
    generalize portP r x y = ps at *
    obtain ⟨i0, hi, q0, q1, q2⟩ := info_parts Try.info_u8
    go_enter Try.func9, Try.ntmps9
    go_wp2_with fail
    refine (C.out _).mono ?_
    rintro e w1 ⟨rfl, b1⟩
    have V0 := ((V.new w [.int .i64 f, .int .i64 t, .int .i64 r, .int .i64 l, .int .i64 x, .int .i64 y, .slice a n ca] 26).kept (belowA _ _)).kept b1
    have V1 := (V.new (w.alloc _) [.int .i64 0, .slice none 0 0] 31).kept b1
    have B := thenB (belowA2 w _ _) b1
    have S := b1.size
    simp at S V1
    clear b1
    obtain ⟨s0, f0, z0⟩ := V0.open
    go_wp2_with fail
    refine (C1.out _).mono ?_
    rintro e w2 ⟨c2, d2, rfl, O2, b2⟩
    replace V0 := V0.kept b2
    replace V1 := V1.kept b2
    replace B := thenB B b2
    have S2 := b2.size
    have L2 := O2.lt
    clear b2 s0 f0 z0
    obtain ⟨s0, f0, z0⟩ := V0.open
    go_wp2_with fail
    refine (C2.out _).mono ?_
    rintro e w3 ⟨c3, d3, rfl, O3, b3⟩
    replace V0 := V0.kept b3
    replace V1 := V1.kept b3
    replace B := thenB B b3
    replace O2 := O2.kept b3
    have S3 := b3.size
    clear b3 s0 f0 z0
    go_wp2_with (at_builtin; refine wpList_app _ rfl _ _ 22 rfl w2.heap.size 5 i0 Try.underlying22 hi q0 q1 q2 _ _ 20 _ rfl O3 hlh.out _ pl _ _ rfl O2.rd hp.out O2.nocap (by omega) (by omega) ?_)
    intro c4 d4 w4 O4 g4 b4
    replace V0 := V0.keptB (by omega) b4
    replace V1 := V1.keptB (by omega) b4
    replace B := B.trans (b4.mono (by omega))
    have S4 := b4.size
    clear b4 g4 O2 O3
    obtain ⟨s0, f0, z0⟩ := V0.open
    go_wp2_with (at_builtin; refine wpList_app _ rfl _ _ 22 rfl w2.heap.size 5 i0 Try.underlying22 hi q0 q1 q2 _ _ (20 + pl) _ rfl O4 (by rw [List.length_append, hlh.out, hp.out]) _ n _ _ rfl (hR.kept B) hn hnc (by omega) (by omega) ?_)
    intro c5 d5 w5 O5 g5 b5
    replace V1 := V1.keptB (by omega) b5
    replace B := B.trans (b5.mono (by omega))
    have S5 := b5.size
    rw [← hBd.out] at O5
    have O5 := Hid.mk O5
    clear b5 g5 O4 s0 f0 z0
    obtain ⟨s1, f1, z1⟩ := V1.open
    go_wp2
    refine bodyPost_ret (v := .agg #[.int .i64 0, .slice c5 (20 + pl + n) d5]) (by simp [results, Try.results9, go_sem, f1]) rfl ⟨c5, d5, rfl, ?_, ?_⟩
    · refine Own.mono (base := w2.heap.size) ?_ (by omega)
      repeat' first | with_reducible exact O5.out | with_reducible refine Own.below ?_ ?_ _ | (simp; try omega)
    · repeat' first | with_reducible exact B | with_reducible refine Below.setCell ?_ ?_ _ | (simp; try omega)
  · have hk1 : (pfC f t r l x y n != 0) = true := by simp [hk]
    simp only [zl_1 hk]
    generalize pfC f t r l x y n = k at *
    go_enter Try.func9, Try.ntmps9
    go_wp2_with fail
    refine (C.out _).mono ?_
    rintro e w1 ⟨rfl, b1⟩
    have V1 := (V.new (w.alloc _) [.int .i64 0, .slice none 0 0] 31).kept b1
    have B := thenB (belowA2 w _ _) b1
    simp at V1
    clear b1
    obtain ⟨s1, f1, z1⟩ := V1.open
    go_wp2
    refine bodyPost_ret (v := .agg #[.int .i64 k, .slice none 0 0]) (by simp [results, Try.results9, go_sem, f1]) rfl ⟨none, 0, rfl, own_none, ?_⟩
    repeat' first | with_reducible exact B | with_reducible refine Below.setCell ?_ ?_ _ | (simp; try omega)

end Go.Proofs.Ythjaehcfakjemaa
