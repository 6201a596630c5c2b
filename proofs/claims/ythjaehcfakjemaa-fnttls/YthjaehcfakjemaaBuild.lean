/- 'BuildPacket', the model's and the program's, by contracts. -/
import Derived.Test.YthjaehcfakjemaaNbA
import Derived.Test.YthjaehcfakjemaaRow
import Derived.Test.YthjaehcfakjemaaZl
import Derived.Test.YthjaehcfakjemaaPkt
import Derived.Test.YthjaehcfakjemaaPut
import Derived.Test.YthjaehcfakjemaaSum
import Derived.Deep.RegionHeld3
namespace Go.Proofs.Ythjaehcfakjemaa
open Go.RowKit
set_option maxRecDepth 40000

/-- The head with its sum's place empty. -/
def bareP (f t r l len : Int) : List Int := (([69, 0] ++ putN len 2) ++ [0, 0, 64, 0, l, r, 0, 0]) ++ putN f 4 ++ putN t 4

theorem length_bareP (f t r l len : Int) : (bareP f t r l len).length = 20 := by simp [bareP, length_putN]

/-- The head. -/
def headP (f t r l len : Int) : List Int := splice (bareP f t r l len) 10 (putN (sumWords (bareP f t r l len)) 2)

theorem length_headP (f t r l len : Int) : (headP f t r l len).length = 20 := by
  unfold headP; rw [length_splice _ _ _ (by rw [length_bareP, length_putN]; omega), length_bareP]

theorem putN_bytes (n : Int) (s : Nat) : Bytes (putN n s) := by
  intro z hz
  simp only [putN, List.mem_map] at hz
  obtain ⟨i, _, rfl⟩ := hz
  unfold digitN
  omega

theorem Bytes.append {xs ys : List Int} (h : Bytes xs) (k : Bytes ys) : Bytes (xs ++ ys) := by
  intro z hz
  rcases List.mem_append.1 hz with h1 | h1
  · exact h z h1
  · exact k z h1

theorem bareP_bytes (f t r l len : Int) (hr : 0 ≤ r ∧ r ≤ 255) (hl : 0 ≤ l ∧ l ≤ 255) : Bytes (bareP f t r l len) := by
  unfold bareP
  refine (((Bytes.append (Bytes.append ?_ (putN_bytes _ _)) ?_).append (putN_bytes _ _)).append (putN_bytes _ _))
  · intro z hz; simp at hz; omega
  · intro z hz; simp at hz; omega

theorem sumWords_bound (zs : List Int) : 0 ≤ sumWords zs ∧ sumWords zs ≤ 65535 := by
  unfold sumWords
  have := sumN_bound zs ((zs.length + 1) / 2)
  omega

theorem ptIn2 {n : Int} (h : 0 ≤ n) (h2 : n ≤ 65535) : ptIn n ((2 : Nat) : Int) := ⟨by decide, by decide, h, by simp; omega⟩
theorem ptIn4 {n : Int} (h : 0 ≤ n) (h2 : n ≤ 4294967295) : ptIn n ((4 : Nat) : Int) := ⟨by decide, by decide, h, by simp; omega⟩

set_option maxHeartbeats 2000000 in
theorem headBytes_ok (f t r l x y len : Int) (a : Option Addr) (n ca : Nat) (w : World) (hf : 0 ≤ f ∧ f ≤ 4294967295) (ht : 0 ≤ t ∧ t ≤ 4294967295) (hr : 0 ≤ r ∧ r ≤ 255) (hl : 0 ≤ l ∧ l ≤ 255) (hlen : 0 ≤ len ∧ len ≤ 65535) :
    Calls Try.prog 30 #[.agg #[.int .i64 f, .int .i64 t, .int .i64 r, .int .i64 l, .int .i64 x, .int .i64 y, .slice a n ca], .int .i64 len] w fun e w' =>
      ∃ c d, e = .returned (.slice c 20 d) ∧ Own .u8 5 w' w.heap.size c d (headP f t r l len) ∧ Below w.heap.size w w' := by
  obtain ⟨i0, hi, q0, q1, q2⟩ := info_parts Try.info_u8
  have wr1 : IntKind.u8.wrap r = r := by rw [IntKind.wrap_u8]; omega
  have wl1 : IntKind.u8.wrap l = l := by rw [IntKind.wrap_u8]; omega
  go_enter Try.func30, Try.ntmps30
  go_wp2_with (at_make; refine wpList_make_own _ rfl _ _ 22 rfl (w.heap.size + 1) 5 i0 (.int .u8 0) 1 Try.underlying22 hi q0 q1 .i64 .i64 _ 224 rfl rfl (by omega) (by rw [q2]; omega) (by unfold maxLen; omega) (by simp) ?_)
  intro w1 hown hgrow
  have V0 := (V.new w [.int .i64 f, .int .i64 t, .int .i64 r, .int .i64 l, .int .i64 x, .int .i64 y, .slice a n ca] 26).kept ((Below.refl _ _).grown hgrow (by simp) (by intro k hk; cases hk))
  have B := (belowA w (.cells #[.int .i64 f, .int .i64 t, .int .i64 r, .int .i64 l, .int .i64 x, .int .i64 y, .slice a n ca] 26)).grown hgrow (by simp) (by intro k hk; cases hk)
  have S1 := hgrow.size
  simp only [World.size_alloc] at S1
  have O := Own.mk (k := .u8) (zs := []) hown rfl
  have O := O.kept (belowA w1 (.cells #[.int .u8 69, .int .u8 0] 5))
  have V0 := V0.kept (belowA w1 (.cells #[.int .u8 69, .int .u8 0] 5))
  have B := thenB B (belowA w1 (.cells #[.int .u8 69, .int .u8 0] 5))
  clear hown hgrow
  go_wp2_with (at_builtin; refine wpList_app _ rfl _ _ 22 rfl (w.heap.size + 1) 5 i0 Try.underlying22 hi q0 q1 q2 _ _ 0 _ rfl O rfl _ 2 2 [69, 0] rfl (Rd.lit w1 5 [69, 0]) rfl (fun h => by cases h) (by omega) (by simp; omega) ?_)
  intro c2 d2 w2 O2 g2 b2
  replace V0 := V0.keptB (by omega) b2
  replace B := B.trans (b2.mono (by omega))
  have S2 : w.heap.size + 1 ≤ w2.heap.size := by have h := b2.size; (try simp at h); omega
  replace O := O2
  clear O2 g2 b2
  obtain ⟨s0, f0, z0⟩ := V0.open
  go_wp2_with fail
  refine (numberBytes_ok len 2 _ (ptIn2 hlen.1 hlen.2)).mono ?_
  rintro e w3 ⟨x3, y3, rfl, P3, b3⟩
  replace V0 := V0.kept b3
  replace B := thenB B b3
  replace O := O.kept b3
  have S3 : w.heap.size + 1 ≤ w3.heap.size := by have h := b3.size; omega
  clear b3 s0 f0 z0
  go_wp2_with (at_builtin; refine wpList_app _ rfl _ _ 22 rfl (w.heap.size + 1) 5 i0 Try.underlying22 hi q0 q1 q2 _ _ 2 _ rfl O (by simp) _ 2 _ _ rfl P3.rd (length_putN _ _) P3.nocap (by omega) (by omega) ?_)
  intro c4 d4 w4 O4 g4 b4
  clear P3
  replace V0 := V0.keptB (by omega) b4
  replace B := B.trans (b4.mono (by omega))
  have S4 : w.heap.size + 1 ≤ w4.heap.size := by have h := b4.size; (try simp at h); omega
  replace O := O4
  clear O4 g4 b4
  obtain ⟨s0, f0, z0⟩ := V0.open
  replace O := O.kept (belowA w4 (.cells #[.int .u8 0, .int .u8 0, .int .u8 64, .int .u8 0, .int .u8 l, .int .u8 r, .int .u8 0, .int .u8 0] 5))
  replace V0 := V0.kept (belowA w4 (.cells #[.int .u8 0, .int .u8 0, .int .u8 64, .int .u8 0, .int .u8 l, .int .u8 r, .int .u8 0, .int .u8 0] 5))
  replace B := thenB B (belowA w4 (.cells #[.int .u8 0, .int .u8 0, .int .u8 64, .int .u8 0, .int .u8 l, .int .u8 r, .int .u8 0, .int .u8 0] 5))
  go_wp2_with (at_builtin; refine wpList_app _ rfl _ _ 22 rfl (w.heap.size + 1) 5 i0 Try.underlying22 hi q0 q1 q2 _ _ 4 _ rfl O (by simp [length_putN]) _ 8 8 [0, 0, 64, 0, l, r, 0, 0] rfl (Rd.lit w4 5 [0, 0, 64, 0, l, r, 0, 0]) rfl (fun h => by cases h) (by omega) (by simp; omega) ?_)
  intro c5 d5 w5 O5 g5 b5
  clear s0 f0 z0
  replace V0 := V0.keptB (by omega) b5
  replace B := B.trans (b5.mono (by omega))
  have S5 : w.heap.size + 1 ≤ w5.heap.size := by have h := b5.size; (try simp at h); omega
  replace O := O5
  clear O5 g5 b5
  obtain ⟨s0, f0, z0⟩ := V0.open
  go_wp2_with fail
  refine (numberBytes_ok f 4 _ (ptIn4 hf.1 hf.2)).mono ?_
  rintro e w6 ⟨x6, y6, rfl, P6, b6⟩
  replace V0 := V0.kept b6
  replace B := thenB B b6
  replace O := O.kept b6
  have S6 : w.heap.size + 1 ≤ w6.heap.size := by have h := b6.size; omega
  clear b6 s0 f0 z0
  go_wp2_with (at_builtin; refine wpList_app _ rfl _ _ 22 rfl (w.heap.size + 1) 5 i0 Try.underlying22 hi q0 q1 q2 _ _ 12 _ rfl O (by simp [length_putN]) _ 4 _ _ rfl P6.rd (length_putN _ _) P6.nocap (by omega) (by omega) ?_)
  intro c7 d7 w7 O7 g7 b7
  clear P6
  replace V0 := V0.keptB (by omega) b7
  replace B := B.trans (b7.mono (by omega))
  have S7 : w.heap.size + 1 ≤ w7.heap.size := by have h := b7.size; (try simp at h); omega
  replace O := O7
  clear O7 g7 b7
  obtain ⟨s0, f0, z0⟩ := V0.open
  go_wp2_with fail
  refine (numberBytes_ok t 4 _ (ptIn4 ht.1 ht.2)).mono ?_
  rintro e w8 ⟨x8, y8, rfl, P8, b8⟩
  replace V0 := V0.kept b8
  replace B := thenB B b8
  replace O := O.kept b8
  have S8 : w.heap.size + 1 ≤ w8.heap.size := by have h := b8.size; omega
  clear b8 s0 f0 z0
  go_wp2_with (at_builtin; refine wpList_app _ rfl _ _ 22 rfl (w.heap.size + 1) 5 i0 Try.underlying22 hi q0 q1 q2 _ _ 16 _ rfl O (by simp [length_putN]) _ 4 _ _ rfl P8.rd (length_putN _ _) P8.nocap (by omega) (by omega) ?_)
  intro c9 d9 w9 O9 g9 b9
  clear P8
  replace V0 := V0.keptB (by omega) b9
  replace B := B.trans (b9.mono (by omega))
  have S9 : w.heap.size + 1 ≤ w9.heap.size := by have h := b9.size; (try simp at h); omega
  replace O := O9
  clear O9 g9 b9
  obtain ⟨s0, f0, z0⟩ := V0.open
  have O : Own .u8 5 w9 (w.heap.size + 1) c9 d9 (bareP f t r l len) := by simpa [bareP] using O
  obtain ⟨g, rfl, hg⟩ := O.some_of (by rw [length_bareP]; omega)
  have hcap := O.cap
  rw [length_bareP] at hcap
  have hc1 : (10 : Int) ≤ (d9 : Int) := by omega
  have hc2 : ¬ d9 = 10 := by omega
  have hbb := bareP_bytes f t r l len hr hl
  have hlb := Hid.mk (length_bareP f t r l len)
  have hsb := sumWords_bound (bareP f t r l len)
  have hHd : Hid (headP f t r l len = splice (bareP f t r l len) 10 (putN (sumWords (bareP f t r l len)) 2)) := rfl
  generalize bareP f t r l len = L at *
  go_wp2_with fail
  go_region_held3 (fun _ => True) (trivial) (first | (go_at_call 38; refine (implSumWords_ok _ 20 _ L _ (O.kept (Below.refl _ _).drew).rd hbb hlb.out (by omega)).mono ?_; rintro e w10 ⟨rfl, b10⟩) | (go_at_call 49; refine (numberBytes_ok (sumWords L) 2 _ (ptIn2 hsb.1 hsb.2)).mono ?_; rintro e w11 ⟨x11, y11, rfl, P11, b11⟩) | (refine step_copy _ (by rfl) (.tmp 34) (.tmp 37) 22 22 (by rfl) 5 Try.underlying22 (by kernel_rfl) g 10 10 (d9 - 10) 2 y11 d9 (w.heap.size + 1) x11 L _ (by simp [Act.eval]) (by simp [Act.eval]) (((O.kept (Below.refl _ _).drew).kept b10).kept b11) P11.rd (length_putN _ _) (by omega) (by rw [hlb.out]; omega) ?_; intro w12 O12 g12 b12))
  have O12 := Hid.mk O12
  replace B := thenB B (thenB (thenB (Below.refl _ _).drew b10) b11)
  have hz := b11.size
  have hz2 := b10.size
  simp at hz2
  replace B := B.trans (b12.mono (by omega))
  clear O hcap hc1 hc2 g12 b12 b10 b11 P11
  go_wp2
  go_ret
  exact ⟨_, _, rfl, by rw [hHd.out]; exact O12.out.mono (by omega), B⟩

end Go.Proofs.Ythjaehcfakjemaa
