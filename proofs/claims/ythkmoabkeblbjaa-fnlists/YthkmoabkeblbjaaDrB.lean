/- The draw of a table that may be bent. -/
import Derived.Test.YthkmoabkeblbjaaDrG
import Derived.Test.YthkmoabkeblbjaaDrawS
import Derived.Test.YthkmoabkeblbjaaTmS
namespace Go.Proofs.Ythkmoabkeblbjaa
open Go.RowKit

theorem grownRow2 {w w1 w2 : World} {B : Nat} {row : Option Nat} (h : w.grownBy w1 (some B)) (g : w1.grownBy w2 row) (hr : ∀ q, row = some q → w.heap.size ≤ q) : w.grownBy w2 (some B) :=
  ⟨g.os.trans h.os, g.tape.trans h.tape, g.output.trans h.output, Nat.le_trans h.size g.size, fun k hk hne => (g.block k (Nat.lt_of_lt_of_le hk h.size) (fun e => by have := hr k e.symm; omega)).trans (h.block k hk hne)⟩

theorem ownTerm_some {w : World} {base : Nat} {a : Option Addr} {cap : Nat} {xs : List T4} (h : OwnTerm w base a cap xs) (h0 : 0 < xs.length) : ∃ g, a = some ⟨g, 0, Option.none⟩ := by
  rcases h.2 with ⟨h, _⟩ | ⟨g, cap', cur, hv, _⟩
  · simp only [Value.slice.injEq] at h
    omega
  · simp only [Value.slice.injEq] at hv
    exact ⟨g, hv.1⟩

theorem okT_upd {x : T4} (h : okT x) (j : Nat) {v : Int} (hv : okI v) : okT (updTerm x j v) := by
  obtain ⟨o, a, b, n⟩ := x
  obtain ⟨h1, h2, h3, h4⟩ := h
  unfold updTerm
  split <;> (try split) <;> (try split) <;> (try split) <;> exact ⟨by assumption, by assumption, by assumption, by assumption⟩

theorem okT_set {xs : List T4} (h : ∀ x ∈ xs, okT x) {k : Nat} (hk : k < xs.length) (j : Nat) {v : Int} (hv : okI v) : ∀ y ∈ xs.set k (updTerm (xs.getD k zTerm) j v), okT y := by
  intro y hy
  rcases List.mem_or_eq_of_mem_set hy with h1 | rfl
  · exact h y h1
  · exact okT_upd (h _ (getDTerm_mem hk)) j hv

/-- What the draw of a table leaves that may be bent. -/
def Bent5 (B : Nat) (a : Option Addr) (n ca : Nat) (zs : List Int) (t : Nat) (w : World) (e : Ending) (w' : World) : Prop :=
  ∃ (c : Option Addr) (d k : Nat) (xs : List T4) (q : Nat), e = .returned (.slice c k d) ∧ xs.length = k ∧ k ≤ 401 ∧ (∀ x ∈ xs, okT x) ∧ OwnTerm w' w.heap.size c d xs ∧ q ≤ t + 200 ∧ Src w' B a n ca zs q ∧ w.grownBy w' (some B)

set_option maxRecDepth 20000 in
set_option maxHeartbeats 4000000 in
theorem l5Bent_ok (B : Nat) (a : Option Addr) (n ca : Nat) (zs : List Int) (t : Nat) (w : World) (hs : Src w B a n ca zs t) (hb : Bytes zs) (hn : zs.length = n) (hx : n ≤ 1048577) (ht : t ≤ 700) :
    Calls Try.prog 62 #[.pointer (some ⟨B, 0, none⟩)] w (Bent5 B a n ca zs t w) := by
  have hBw : B < w.heap.size := hs.1.1
  go_enter Try.func62, Try.ntmps62
  have S := hs.kept (belowA w (.cells #[.int .i64 6, .int .i64 14, .int .i64 25, .int .i64 40, .int .i64 1] 2))
  have G := grown_alloc (World.grownBy.refl w (some B)) (.cells #[.int .i64 6, .int .i64 14, .int .i64 25, .int .i64 40, .int .i64 1] 2)
  go_wp2_with fail
  refine (l1Pick_ok B a n ca zs t w.heap.size 5 5 [6, 14, 25, 40, 1] _ S hb hn hx (by omega) rfl (by omega) (by omega) (fun i hi => ?_) (by omega)).mono ?_
  · exact lit_cells w [6, 14, 25, 40, 1] _ _ (by simp) i hi
  rintro e w1 ⟨x, rfl, hmem, S1, g1⟩
  have hx1 : 0 ≤ x ∧ x ≤ 40 := by
    simp only [List.mem_cons, List.not_mem_nil, or_false] at hmem
    omega
  obtain ⟨x1, x2⟩ := hx1
  obtain ⟨m, rfl⟩ := Int.eq_ofNat_of_zero_le x1
  have hm40 : m ≤ 40 := by omega
  clear hmem x1 x2
  replace G := grownBy_trans G g1
  have hGz := G.size
  clear S g1 hs
  go_wp2_with fail
  refine (l5Grow_ok B a n ca zs (t + 1) m _ S1 hb hn hx (by omega) (by omega)).mono ?_
  rintro e w2 ⟨c, d, k, xs, q, rfl, hl, hkm, hok, O, hq, S2, g2⟩
  replace O := O.mono hGz
  replace G := grownBy_trans G g2
  clear S1 g2
  have hok' := Hid.mk hok
  have hl' := Hid.mk hl
  clear hok hl
  by_cases h0 : k = 0
  · subst h0
    have O' := Hid.mk O
    have S' := Hid.mk S2
    have G' := Hid.mk G
    clear O S2 G
    go_wp2
    go_ret
    exact ⟨c, d, 0, xs, q, rfl, hl'.out, by omega, hok'.out, O'.out, by omega, S'.out, G'.out⟩
  have hk0 : ((k : Int) == 0) = false := by simp; omega
  obtain ⟨g, rfl⟩ := ownTerm_some O (by rw [hl'.out]; omega)
  have hkp : 1 ≤ k := by omega
  clear h0
  have O' := Hid.mk O
  clear O
  go_wp2_with fail
  refine (l1Next_ok B a n ca zs q (k : Int) _ S2 hb hn hx (by omega) (by omega)).mono ?_
  rintro e w3 ⟨v, rfl, hv, _, S3, g3⟩
  obtain ⟨hv1, hv2⟩ := hv (by omega)
  obtain ⟨i, rfl⟩ := Int.eq_ofNat_of_zero_le hv1
  have him : i < k := by omega
  have O := O'.out.grown g3 (fun b hb => by have := (O'.out.lt b hb).1; simp; omega)
  replace G := grownBy_trans G g3
  clear S2 g3 O' hv hv1
  have O' := Hid.mk O
  clear O
  go_wp2_with fail
  refine (l1Next_ok B a n ca zs (q + 1) 24 _ S3 hb hn hx (by omega) (by omega)).mono ?_
  rintro e w4 ⟨u, rfl, hu, _, S4, g4⟩
  obtain ⟨hu1, hu2⟩ := hu (by omega)
  have O := O'.out.grown g4 (fun b hb => by have := (O'.out.lt b hb).1; simp; omega)
  replace G := grownBy_trans G g4
  clear S3 g4 O' hu
  have hcw := O.lt ⟨g, 0, none⟩ rfl
  simp only at hcw
  have hi1 : (i : Int) < (k : Int) := by omega
  rcases (by omega : u = 0 ∨ u = 1 ∨ u = 2 ∨ u = 3 ∨ u = 4 ∨ u = 5 ∨ 6 ≤ u) with rfl | rfl | rfl | rfl | rfl | rfl | hu3
  · have O' := Hid.mk O
    clear O
    go_wp2_with fail
    refine (l1Next_ok B a n ca zs (q + 1 + 1) 7 _ S4 hb hn hx (by omega) (by omega)).mono ?_
    rintro e w8 ⟨p, rfl, hp, _, S8, g8⟩
    obtain ⟨hp1, hp2⟩ := hp (by omega)
    have O8 := Hid.mk (O'.out.grown g8 (fun b hb => by have := (O'.out.lt b hb).1; simp; omega))
    replace G := grownBy_trans G g8
    have hcw8 : g < w8.heap.size := by have := g8.size; omega
    clear S4 g8 O' hp
    have O' := O8
    clear O8
    have S5' := S8.kept (belowA w8 (.cells #[.int .i64 0, .int .i64 8, .int .i64 (1 + p)] 2))
    have O5' := Hid.mk (O'.out.kept (belowA w8 (.cells #[.int .i64 0, .int .i64 8, .int .i64 (1 + p)] 2)))
    replace G := grown_alloc G (.cells #[.int .i64 0, .int .i64 8, .int .i64 (1 + p)] 2)
    go_wp2_with fail
    refine (l1Pick_ok B a n ca zs (q + 1 + 1 + 1) w8.heap.size 3 3 [0, 8, 1 + p] _ S5' hb hn hx (by omega) rfl (by omega) (by omega) (fun j hi => ?_) (by have := S8.1.1; omega)).mono ?_
    · exact lit_cells w8 [0, 8, 1 + p] _ _ (by simp) _ hi
    rintro e w5 ⟨z, rfl, hz, S5, g5⟩
    have hzi : okI z := by simp only [List.mem_cons, List.not_mem_nil, or_false] at hz; exact okI_of (by omega) (by omega)
    have O := O5'.out.grown g5 (fun b hb => by have := (O5'.out.lt b hb).1; simp; omega)
    replace G := grownBy_trans G g5
    clear S5' O5' S8 g5 O' hz
    have zF := fun o => World.ownsRow.frozenAt O o
    obtain ⟨y, hy⟩ : ∃ y, xs.getD i zTerm = y := ⟨_, rfl⟩
    rcases O.rd with h9 | ⟨b1, o1, e1, hca⟩
    · have := hl'.out; rw [h9] at this; simp at this; omega
    simp only [Option.some.injEq, Addr.mk.injEq, and_true] at e1
    obtain ⟨rfl, rfl⟩ := e1
    obtain ⟨p0, p1, p2, p3⟩ := RdTerm.cells hca i (by rw [hl'.out]; exact him) y hy
    simp only [Nat.zero_add] at p0 p1 p2 p3
    clear hy hca
    have O9 := O.poke i 0 (by rw [hl'.out]; exact him) (by decide) z
    have OZ := Hid.mk O9
    have S' := Hid.mk S5
    have G' := Hid.mk G
    have hGl := O.lt _ rfl
    simp only at hGl
    clear O O9 S5 G
    go_wp2
    go_ret
    refine ⟨some ⟨g, 0, none⟩, d, k, _, q + 1 + 1 + 1 + 1, rfl, ?_, by omega, okT_set hok'.out (by rw [hl'.out]; exact him) 0 hzi, OZ.out, by omega, S'.out.other (by simp only; omega) _, grownSet' G'.out (by simp only; omega) _⟩
    rw [List.length_set]
    exact hl'.out
  · have O' := Hid.mk O
    clear O
    have S5' := S4.kept (belowA w4 (.cells #[.int .i64 (-1), .int .i64 (i), .int .i64 0, .int .i64 4611686018427387904] 2))
    have O5' := Hid.mk (O'.out.kept (belowA w4 (.cells #[.int .i64 (-1), .int .i64 (i), .int .i64 0, .int .i64 4611686018427387904] 2)))
    replace G := grown_alloc G (.cells #[.int .i64 (-1), .int .i64 (i), .int .i64 0, .int .i64 4611686018427387904] 2)
    go_wp2_with fail
    refine (l1Pick_ok B a n ca zs (q + 1 + 1) w4.heap.size 4 4 [-1, (i : Int), 0, 4611686018427387904] _ S5' hb hn hx (by omega) rfl (by omega) (by omega) (fun j hi => ?_) (by have := S4.1.1; omega)).mono ?_
    · exact lit_cells w4 [-1, (i : Int), 0, 4611686018427387904] _ _ (by simp) _ hi
    rintro e w5 ⟨z, rfl, hz, S5, g5⟩
    have hzi : okI z := by simp only [List.mem_cons, List.not_mem_nil, or_false] at hz; exact okI_of (by omega) (by omega)
    have O := O5'.out.grown g5 (fun b hb => by have := (O5'.out.lt b hb).1; simp; omega)
    replace G := grownBy_trans G g5
    clear S5' O5' S4 g5 O' hz
    have zF := fun o => World.ownsRow.frozenAt O o
    obtain ⟨y, hy⟩ : ∃ y, xs.getD i zTerm = y := ⟨_, rfl⟩
    rcases O.rd with h9 | ⟨b1, o1, e1, hca⟩
    · have := hl'.out; rw [h9] at this; simp at this; omega
    simp only [Option.some.injEq, Addr.mk.injEq, and_true] at e1
    obtain ⟨rfl, rfl⟩ := e1
    obtain ⟨p0, p1, p2, p3⟩ := RdTerm.cells hca i (by rw [hl'.out]; exact him) y hy
    simp only [Nat.zero_add] at p0 p1 p2 p3
    clear hy hca
    have O9 := O.poke i 1 (by rw [hl'.out]; exact him) (by decide) z
    have OZ := Hid.mk O9
    have S' := Hid.mk S5
    have G' := Hid.mk G
    have hGl := O.lt _ rfl
    simp only at hGl
    clear O O9 S5 G
    go_wp2
    go_ret
    refine ⟨some ⟨g, 0, none⟩, d, k, _, q + 1 + 1 + 1, rfl, ?_, by omega, okT_set hok'.out (by rw [hl'.out]; exact him) 1 hzi, OZ.out, by omega, S'.out.other (by simp only; omega) _, grownSet' G'.out (by simp only; omega) _⟩
    rw [List.length_set]
    exact hl'.out
  · have O' := Hid.mk O
    clear O
    have S5' := S4.kept (belowA w4 (.cells #[.int .i64 (-1), .int .i64 (i), .int .i64 1] 2))
    have O5' := Hid.mk (O'.out.kept (belowA w4 (.cells #[.int .i64 (-1), .int .i64 (i), .int .i64 1] 2)))
    replace G := grown_alloc G (.cells #[.int .i64 (-1), .int .i64 (i), .int .i64 1] 2)
    go_wp2_with fail
    refine (l1Pick_ok B a n ca zs (q + 1 + 1) w4.heap.size 3 3 [-1, (i : Int), 1] _ S5' hb hn hx (by omega) rfl (by omega) (by omega) (fun j hi => ?_) (by have := S4.1.1; omega)).mono ?_
    · exact lit_cells w4 [-1, (i : Int), 1] _ _ (by simp) _ hi
    rintro e w5 ⟨z, rfl, hz, S5, g5⟩
    have hzi : okI z := by simp only [List.mem_cons, List.not_mem_nil, or_false] at hz; exact okI_of (by omega) (by omega)
    have O := O5'.out.grown g5 (fun b hb => by have := (O5'.out.lt b hb).1; simp; omega)
    replace G := grownBy_trans G g5
    clear S5' O5' S4 g5 O' hz
    have zF := fun o => World.ownsRow.frozenAt O o
    obtain ⟨y, hy⟩ : ∃ y, xs.getD i zTerm = y := ⟨_, rfl⟩
    rcases O.rd with h9 | ⟨b1, o1, e1, hca⟩
    · have := hl'.out; rw [h9] at this; simp at this; omega
    simp only [Option.some.injEq, Addr.mk.injEq, and_true] at e1
    obtain ⟨rfl, rfl⟩ := e1
    obtain ⟨p0, p1, p2, p3⟩ := RdTerm.cells hca i (by rw [hl'.out]; exact him) y hy
    simp only [Nat.zero_add] at p0 p1 p2 p3
    clear hy hca
    have O9 := O.poke i 2 (by rw [hl'.out]; exact him) (by decide) z
    have OZ := Hid.mk O9
    have S' := Hid.mk S5
    have G' := Hid.mk G
    have hGl := O.lt _ rfl
    simp only at hGl
    clear O O9 S5 G
    go_wp2
    go_ret
    refine ⟨some ⟨g, 0, none⟩, d, k, _, q + 1 + 1 + 1, rfl, ?_, by omega, okT_set hok'.out (by rw [hl'.out]; exact him) 2 hzi, OZ.out, by omega, S'.out.other (by simp only; omega) _, grownSet' G'.out (by simp only; omega) _⟩
    rw [List.length_set]
    exact hl'.out
  · have O' := Hid.mk O
    clear O
    have S5' := S4.kept (belowA w4 (.cells #[.int .i64 (-1), .int .i64 10000, .int .i64 1] 2))
    have O5' := Hid.mk (O'.out.kept (belowA w4 (.cells #[.int .i64 (-1), .int .i64 10000, .int .i64 1] 2)))
    replace G := grown_alloc G (.cells #[.int .i64 (-1), .int .i64 10000, .int .i64 1] 2)
    go_wp2_with fail
    refine (l1Pick_ok B a n ca zs (q + 1 + 1) w4.heap.size 3 3 [-1, 10000, 1] _ S5' hb hn hx (by omega) rfl (by omega) (by omega) (fun j hi => ?_) (by have := S4.1.1; omega)).mono ?_
    · exact lit_cells w4 [-1, 10000, 1] _ _ (by simp) _ hi
    rintro e w5 ⟨z, rfl, hz, S5, g5⟩
    have hzi : okI z := by simp only [List.mem_cons, List.not_mem_nil, or_false] at hz; exact okI_of (by omega) (by omega)
    have O := O5'.out.grown g5 (fun b hb => by have := (O5'.out.lt b hb).1; simp; omega)
    replace G := grownBy_trans G g5
    clear S5' O5' S4 g5 O' hz
    have zF := fun o => World.ownsRow.frozenAt O o
    obtain ⟨y, hy⟩ : ∃ y, xs.getD i zTerm = y := ⟨_, rfl⟩
    rcases O.rd with h9 | ⟨b1, o1, e1, hca⟩
    · have := hl'.out; rw [h9] at this; simp at this; omega
    simp only [Option.some.injEq, Addr.mk.injEq, and_true] at e1
    obtain ⟨rfl, rfl⟩ := e1
    obtain ⟨p0, p1, p2, p3⟩ := RdTerm.cells hca i (by rw [hl'.out]; exact him) y hy
    simp only [Nat.zero_add] at p0 p1 p2 p3
    clear hy hca
    have O9 := O.poke i 3 (by rw [hl'.out]; exact him) (by decide) z
    have OZ := Hid.mk O9
    have S' := Hid.mk S5
    have G' := Hid.mk G
    have hGl := O.lt _ rfl
    simp only at hGl
    clear O O9 S5 G
    go_wp2
    go_ret
    refine ⟨some ⟨g, 0, none⟩, d, k, _, q + 1 + 1 + 1, rfl, ?_, by omega, okT_set hok'.out (by rw [hl'.out]; exact him) 3 hzi, OZ.out, by omega, S'.out.other (by simp only; omega) _, grownSet' G'.out (by simp only; omega) _⟩
    rw [List.length_set]
    exact hl'.out
  · obtain ⟨y, hy⟩ : ∃ y, xs.getD i zTerm = y := ⟨_, rfl⟩
    have hyo : okT y := by rw [← hy]; exact hok'.out _ (getDTerm_mem (by rw [hl'.out]; exact him))
    rcases O.rd with h9 | ⟨b1, o1, e1, hca⟩
    · have := hl'.out; rw [h9] at this; simp at this; omega
    simp only [Option.some.injEq, Addr.mk.injEq, and_true] at e1
    obtain ⟨rfl, rfl⟩ := e1
    obtain ⟨p0, p1, p2, p3⟩ := RdTerm.cells hca i (by rw [hl'.out]; exact him) y hy
    simp only [Nat.zero_add] at p0 p1 p2 p3
    clear hy hca
    have O5 := Hid.mk (O.kept (belowA w4 (.cells #[.int .i64 y.o, .int .i64 y.a, .int .i64 y.b, .int .i64 y.n] 36)))
    have S5 := Hid.mk (S4.kept (belowA w4 (.cells #[.int .i64 y.o, .int .i64 y.a, .int .i64 y.b, .int .i64 y.n] 36)))
    have G5 := Hid.mk (grown_alloc G (.cells #[.int .i64 y.o, .int .i64 y.a, .int .i64 y.b, .int .i64 y.n] 36))
    have VY := V.new w4 [.int .i64 y.o, .int .i64 y.a, .int .i64 y.b, .int .i64 y.n] 36
    have HNC := Hid.mk VY.news
    have hb4 : w.heap.size ≤ (w4.alloc (.cells #[.int .i64 y.o, .int .i64 y.a, .int .i64 y.b, .int .i64 y.n] 36)).heap.size := by have := G.size; rw [World.size_alloc]; omega
    clear O S4 G VY
    go_wp2_with (at_builtin; go_loud (refine wpList_putTerm _ rfl _ _ rfl w.heap.size (some ⟨g, 0, none⟩) d xs k hl'.out rfl O5.out ⟨w4.heap.size, 0, none⟩ 1 y rfl HNC.out (by omega) hb4 ?_))
    intro c6 d6 w6 O6 hg6 _
    have O6' := Hid.mk O6
    have S6 := Hid.mk (S5.out.grownAway hg6 (fun q hq => by simp at hq; omega))
    have G6 := Hid.mk (grownRow2 G5.out hg6 (fun q hq => by simp at hq; omega))
    clear O6 hg6 O5 S5 G5 HNC
    go_wp2
    go_ret
    refine ⟨c6, d6, k + 1, xs ++ [y], q + 1 + 1, rfl, by rw [List.length_append, hl'.out]; rfl, by omega, ?_, O6'.out, by omega, S6.out, G6.out⟩
    intro r hr
    simp only [List.mem_append, List.mem_singleton] at hr
    rcases hr with hr | rfl
    · exact hok'.out r hr
    · exact hyo
  · have S' := Hid.mk S4
    have G' := Hid.mk G
    have hGz4 := G.size
    clear O S4 G
    obtain ⟨i0, hi, hz0, hz1, hz2⟩ := info_parts Try.infoTerm
    go_wp2_with (at_make; refine wpList_make_full _ rfl _ _ 24 rfl w4.heap.size 36 i0 (.agg #[.int .i64 0, .int .i64 0, .int .i64 0, .int .i64 0]) 4 Try.underlying24 hi hz0 hz1 .i64 .i64 _ _ 401 rfl rfl rfl rfl (by rw [hz2]; omega) (by unfold maxLen; omega) (Nat.le_refl _) ?_)
    intro w5 hown hgrow
    have hown0 : w5.ownsRow w4.heap.size 36 4 (.slice (some ⟨w4.heap.size, 0, none⟩) 401 401) 401 (flatTerm (List.replicate 401 zTerm)) := by
      rw [zerosTerm, ← madeTerm]
      exact hown
    have OZ := Hid.mk (OwnTerm.mono (base' := w.heap.size) (show OwnTerm w5 w4.heap.size (some ⟨w4.heap.size, 0, none⟩) 401 (List.replicate 401 zTerm) by unfold OwnTerm; rw [List.length_replicate]; exact hown0) hGz4)
    have hbel : Below w4.heap.size w4 w5 := (Below.refl _ _).grown hgrow (Nat.le_refl _) (by intro k hk; cases hk)
    have S5 := Hid.mk (S'.out.kept hbel)
    have G5 := Hid.mk (grownBy_trans G'.out (Below.grownBy hbel _))
    clear hown hgrow hown0 hbel
    go_wp2
    go_ret
    exact ⟨some ⟨w4.heap.size, 0, none⟩, 401, 401, _, q + 1 + 1, rfl, List.length_replicate, by omega, fun r hr => by rw [List.eq_of_mem_replicate hr]; exact ⟨okI_of (by decide) (by decide), okI_of (by decide) (by decide), okI_of (by decide) (by decide), okI_of (by decide) (by decide)⟩, OZ.out, by omega, S5.out, G5.out⟩
  · have O' := Hid.mk O
    have S' := Hid.mk S4
    have G' := Hid.mk G
    have hu4 : (u == 0) = false := by simp; omega
    have hu5 : (u == 1) = false := by simp; omega
    have hu6 : (u == 2) = false := by simp; omega
    have hu7 : (u == 3) = false := by simp; omega
    have hu8 : (u == 4) = false := by simp; omega
    have hu9 : (u == 5) = false := by simp; omega
    clear O S4 G
    go_wp2
    go_ret
    exact ⟨some ⟨g, 0, none⟩, d, k, xs, q + 1 + 1, rfl, hl'.out, by omega, hok'.out, O'.out, by omega, S'.out, G'.out⟩

end Go.Proofs.Ythkmoabkeblbjaa
