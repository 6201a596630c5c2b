/- The draws of two lists of selectors, and of a list and a packet. -/
import Derived.Test.YtmbkbbephmblmaaDSelL
import Derived.Test.YtmbkbbephmblmaaDSel3
namespace Go.Proofs.Ytmbkbbephmblmaa
open Go.RowKit

set_option maxHeartbeats 4000000 in
theorem drawNarrowSels_ok (a : Option Addr) (n ca : Nat) (zs : List Int) (w : World) (ha : Rd .u8 w a zs) (hb : Bytes zs) (hn : zs.length = n) (hx : n ≤ 1048577) :
    Calls Try.prog 23 #[.slice a n ca] w fun e w' => ∃ (c d m c' d' k : Nat) (xs ys : List S9), e = .returned (.tuple #[.slice (some ⟨c, 0, none⟩) m d, .slice (some ⟨c', 0, none⟩) k d']) ∧ (m ≤ 13 ∧ xs.length = m ∧ RdL w' (some ⟨c, 0, none⟩) xs) ∧ (k ≤ 13 ∧ ys.length = k ∧ RdL w' (some ⟨c', 0, none⟩) ys) ∧ Below w.heap.size w w' := by
  go_enter Try.func23, Try.ntmps23
  have S := Src.new w a n ca zs 105 ha
  have B := belowA w (.cells #[.slice a n ca, .int .i64 0] 105)
  go_wp2_with (go_at_call 49; go_in)
  refine (l3List_ok w.heap.size a n ca zs 0 _ S hb hn hx (by omega)).mono ?_
  rintro e w1 ⟨c, d, m, xs, q, rfl, hm, hl, O1, hq, S1, g1⟩
  have hc := O1.lt _ rfl
  simp only [World.size_alloc] at hc
  replace B := B.grown g1 (by simp) (by simp)
  go_wp2_with fail
  refine (l3List_ok w.heap.size a n ca zs q _ S1 hb hn hx (by omega)).mono ?_
  rintro e w2 ⟨c', d', k, ys, q2, rfl, hk, hl2, O2, hq2, S2, g2⟩
  replace O1 := O1.grown g2 (fun b hb => by simp at hb; subst hb; simp; omega)
  replace B := B.grown g2 (by omega) (by simp)
  have R1 := Hid.mk O1.rd
  have R2 := Hid.mk O2.rd
  replace hl := Hid.mk hl
  replace hl2 := Hid.mk hl2
  clear S S1 S2 g1 g2 O1 O2 hc
  go_wp2
  go_ret2
  exact ⟨c, d, m, c', d', k, xs, ys, rfl, ⟨hm, hl.out, R1.out⟩, ⟨hk, hl2.out, R2.out⟩, B⟩

set_option maxHeartbeats 4000000 in
theorem drawHoldsAny_ok (a : Option Addr) (n ca : Nat) (zs : List Int) (w : World) (ha : Rd .u8 w a zs) (hb : Bytes zs) (hn : zs.length = n) (hx : n ≤ 1048577) :
    Calls Try.prog 26 #[.slice a n ca] w fun e w' => ∃ (c d m : Nat) (f t r l u v : Int) (s : Option Addr) (k g : Nat), e = .returned (.tuple #[.slice (some ⟨c, 0, none⟩) m d, .agg #[.int .i64 f, .int .i64 t, .int .i64 r, .int .i64 l, .int .i64 u, .int .i64 v, .slice s k g]]) ∧ Below w.heap.size w w' := by
  go_enter Try.func26, Try.ntmps26
  have S : Src ((w.alloc (.cells #[.int .i64 0, .int .i64 0, .int .i64 0, .int .i64 0, .int .i64 0, .int .i64 0, .slice none 0 0] 35)).alloc (.cells #[.slice a n ca, .int .i64 0] 105)) (w.heap.size + 1) a n ca zs 0 := by have h := Src.new (w.alloc (.cells #[.int .i64 0, .int .i64 0, .int .i64 0, .int .i64 0, .int .i64 0, .int .i64 0, .slice none 0 0] 35)) a n ca zs 105 (ha.kept (belowA _ _)); simpa only [World.size_alloc] using h
  have V1 : V ((w.alloc (.cells #[.int .i64 0, .int .i64 0, .int .i64 0, .int .i64 0, .int .i64 0, .int .i64 0, .slice none 0 0] 35)).alloc (.cells #[.slice a n ca, .int .i64 0] 105)) w.heap.size [.int .i64 0, .int .i64 0, .int .i64 0, .int .i64 0, .int .i64 0, .int .i64 0, .slice none 0 0] := (V.newAt _ _ _ _ rfl).kept (belowA _ _)
  have B := belowA2 w (.cells #[.int .i64 0, .int .i64 0, .int .i64 0, .int .i64 0, .int .i64 0, .int .i64 0, .slice none 0 0] 35) (.cells #[.slice a n ca, .int .i64 0] 105)
  obtain ⟨s_V1, f_V1, z_V1⟩ := V1.open
  go_wp2_with (go_at_call 49; go_in)
  refine (l3List_ok (w.heap.size + 1) a n ca zs 0 _ S hb hn hx (by omega)).mono ?_
  rintro e w1 ⟨c, d, m, xs, q, rfl, hm, hl, O1, hq, S1, g1⟩
  clear s_V1 f_V1 z_V1
  replace V1 := V1.grownB g1 (by omega)
  replace B := B.grown g1 (by simp; omega) (by simp)
  obtain ⟨s_V1, f_V1, z_V1⟩ := V1.open
  go_wp2_with fail
  refine (l2Bent_ok (w.heap.size + 1) a n ca zs q _ S1 hb hn hx (by omega)).mono ?_
  rintro e w2 ⟨f, t', r, l, u, v, c', d', k, ys, rfl, hys, hk, _, hc, RP, g2, q2, hq2, S2⟩
  clear s_V1 f_V1 z_V1
  replace V1 := V1.grownB g2 (by omega)
  replace B := B.grown g2 (by have := B.size; (try simp at this); omega) (by simp)
  clear g1 g2
  have VF := V1.fill7 (.int .i64 f) (.int .i64 t') (.int .i64 r) (.int .i64 l) (.int .i64 u) (.int .i64 v) (.slice (some ⟨c', 0, none⟩) k d')
  obtain ⟨s_V1, f_V1, z_V1⟩ := V1.open
  have g0 := VF.2.1 0 (by simp)
  have g1 := VF.2.1 1 (by simp)
  have g2 := VF.2.1 2 (by simp)
  have g3 := VF.2.1 3 (by simp)
  have g4 := VF.2.1 4 (by simp)
  have g5 := VF.2.1 5 (by simp)
  have g6 := VF.2.1 6 (by simp)
  simp only [List.getElem?_cons_zero, List.getElem?_cons_succ] at g0 g1 g2 g3 g4 g5 g6
  clear S S1 S2 O1 RP hl hys VF
  have B' := Hid.mk B
  clear B
  go_wp2
  refine bodyPost_ret (v := .tuple #[.slice (some ⟨c, 0, none⟩) m d, .agg #[.int .i64 f, .int .i64 t', .int .i64 r, .int .i64 l, .int .i64 u, .int .i64 v, .slice (some ⟨c', 0, none⟩) k d']]) (by simp [results, Try.results26, go_sem, g0, g1, g2, g3, g4, g5, g6]) rfl ⟨c, d, m, f, t', r, l, u, v, some ⟨c', 0, none⟩, k, d', rfl, ?_⟩
  have B := B'.out
  exact (((((((B.setCell (by simp) _).setCell (by simp) _).setCell (by simp) _).setCell (by simp) _).setCell (by simp) _).setCell (by simp) _).setCell (by simp) _)

end Go.Proofs.Ytmbkbbephmblmaa
