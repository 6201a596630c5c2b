/- A right table's terms; the draw of a list. -/
import Derived.Test.YthkmoabkeblbjaaDb
import Derived.Test.YthkmoabkeblbjaaIntA
import Derived.Test.YthkmoabkeblbjaaZl
namespace Go.Proofs.Ythkmoabkeblbjaa
open Go.RowKit

/-- The terms of a right table are ones of the language. -/
theorem right_ok {xs : List T4} (h : tfC xs = 0) : ∀ t ∈ xs, okT t := by
  intro t ht
  obtain ⟨k, hk, rfl⟩ := List.getElem_of_mem ht
  have hz := ((tfC_zero h).2 k hk).1
  have e : xs.getD k zTerm = xs[k] := by simp [List.getD, hk]
  rw [e] at hz
  generalize xs[k] = t at *
  obtain ⟨ho, hn, h1, h2, h3, h4, _⟩ := tm_zero hz
  have hl := (tfC_zero h).1
  have hlt : (xs.take k).length ≤ 400 := by rw [List.length_take]; omega
  refine ⟨okI_of (by omega) (by omega), ?_, ?_, okI_of (by omega) (by omega)⟩
  · by_cases c : 0 < kids t.o
    · have := h1 c; exact okI_of (by omega) (by omega)
    · have := h2 (by omega); exact okI_of (by omega) (by omega)
  · by_cases c : 1 < kids t.o
    · have := h4 c; exact okI_of (by omega) (by omega)
    · have := h3 (by omega); exact okI_of (by omega) (by omega)

theorem own_cap9 {w : World} {base : Nat} {a : Option Addr} {cap : Nat} {zs : List Int} (h : Own .i64 2 w base a cap zs) : zs.length ≤ cap := by
  rcases h.2 with ⟨_, h0⟩ | ⟨g, cap', cur, hv, _, _, hc, _⟩
  · omega
  · simp only [Value.slice.injEq] at hv
    obtain ⟨_, _, rfl⟩ := hv
    exact hc
set_option maxRecDepth 20000 in
set_option maxHeartbeats 8000000 in
theorem drawPutList_ok (a : Option Addr) (n ca : Nat) (zs : List Int) (w : World) (ha : Rd .u8 w a zs) (hb : Bytes zs) (hn : zs.length = n) (hx : n ≤ 1048577) :
    Calls Try.prog 27 #[.slice a n ca] w fun e w' => ∃ (c : Option Addr) (d k : Nat) (xs : List T4) (g e2 : Nat) (os : List Int), e = .returned (.tuple #[.slice c k d, .slice (some ⟨g, 0, none⟩) os.length e2]) ∧ (xs.length = k ∧ k ≤ 401 ∧ k ≤ d ∧ (c = none → d = 0) ∧ (∀ x ∈ xs, okT x)) ∧ (os.length ≤ 5 ∧ os.length ≤ e2 ∧ g < w'.heap.size) ∧ RdTerm w' c xs ∧ Rd .i64 w' (some ⟨g, 0, none⟩) os ∧ Below w.heap.size w w' := by
  have S := Src.new w a n ca zs 138 ha
  have G := belowA w (.cells #[.slice a n ca, .int .i64 0] 138)
  go_enter Try.func27, Try.ntmps27
  go_wp2_with (first | (go_at_call 61; go_in) | fail)
  refine (l5Bent_ok w.heap.size a n ca zs 0 _ S hb hn hx (by omega)).mono ?_
  rintro e w1 ⟨c, d, k, xs, q, rfl, hl, hk, hok, O, hq, S1, g1⟩
  clear S
  have hcap := O.cap
  have hnc := ownTerm_nocap O
  rw [hl] at hcap
  have hOl : Hid (∀ b : Addr, c = some b → w.heap.size + 1 ≤ b.block ∧ b.block < w1.heap.size) := Hid.mk (fun b hb => by have := O.lt b hb; simp only [World.size_alloc] at this; omega)
  have R := O.rd
  replace G := G.grown g1 (by first | (simp; done) | (simp; omega) | omega) (by intro k hk; simp at hk; omega)
  have hz1 := g1.size
  simp only [World.size_alloc] at hz1
  clear g1 O
  have HT := Hid.mk (show xs.length = k ∧ k ≤ 401 ∧ k ≤ d ∧ (c = none → d = 0) ∧ (∀ x ∈ xs, okT x) from ⟨hl, hk, hcap, hnc, hok⟩)
  clear hok hcap hnc hl
  have bA := belowA w1 (.cells #[] 2)
  have O0 := OwnI.lit w1 [] [] rfl (Nat.zero_le _)
  replace R := R.kept bA
  replace S1 := S1.kept bA
  replace G := thenB G bA
  clear bA
  have hB : w.heap.size < w1.heap.size := by omega
  go_wp2_with fail
  refine (l1Next_ok w.heap.size a n ca zs q 5 _ S1 hb hn hx (by omega) (by omega)).mono ?_
  rintro e w2 ⟨v0, rfl, hv, _, S2, g⟩
  obtain ⟨hv1, hv2⟩ := hv (by omega)
  have Z2 := g.size
  simp only [World.size_alloc] at Z2
  have R2 := Hid.mk (R.grown g (fun b hb e => by have := (hOl.out b hb).1; simp at e; omega))
  have G2 := Hid.mk (G.grown g (by have := G.size; simp only [World.size_alloc] at this; (try simp only [World.size_alloc]); omega) (by intro k hk; simp at hk; omega))
  have O2 := Hid.mk (O0.past g hB)
  have S3 := Hid.mk S2
  clear g S1 S2 O0 R G hv
  obtain ⟨j0, rfl⟩ : ∃ j : Nat, v0 = (j : Int) := ⟨v0.toNat, by omega⟩
  obtain ⟨K, hK⟩ : ∃ K, max (1 : Int) (k : Int) = K := ⟨_, rfl⟩
  have hK1 : 1 ≤ K ∧ K ≤ 401 := by omega
  obtain ⟨hK1, hK2⟩ := hK1
  have CM := Hid.mk (fun w => l1Max_ok 1 (k : Int) w)
  rw [hK] at CM
  clear hK
  have CN := Hid.mk (fun (wx : World) t S ht => l1Next_ok w.heap.size a n ca zs t K wx S hb hn hx ht (by omega))
  have CC := Hid.mk (fun (wx : World) t S ht => l1Chance_ok w.heap.size a n ca zs t 12 wx S hb hn hx ht (by omega))
  have CP := Hid.mk (fun (wx : World) t S ht => l5Place_ok w.heap.size a n ca zs t wx S hb hn hx ht c d k hk)
  generalize hW1 : w1.heap.size = W1 at *
  go_wp2
  go_loopw [6, 7] (fun s i wr => ∃ (j g e2 : Nat) (os : List Int) (qq : Nat), j ≤ 4 ∧ i = .int .i64 (j : Int) ∧ s = .slice (some ⟨g, 0, none⟩) os.length e2 ∧ os.length + j ≤ 4 ∧ Own .i64 2 wr W1 (some ⟨g, 0, none⟩) e2 os ∧ qq ≤ q + 1 + (4 - j) ∧ Src wr w.heap.size a n ca zs qq ∧ RdTerm wr c xs ∧ Below w.heap.size w wr ∧ Hid (W1 ≤ wr.heap.size)) (fun _ i _ => (intOf i).toNat)
  case atStart => exact ⟨j0, _, _, [], q + 1, by omega, rfl, rfl, by simp; omega, O2.out, by omega, S3.out, R2.out, G2.out, Hid.mk (by omega)⟩
  case round =>
    clear O2 S3 R2 G2
    obtain ⟨j, g, e2, os, qq, hj, rfl, rfl, hoj, O, hqq, S, R, G, hWr⟩ := hrel
    by_cases hj0 : j = 0
    · subst hj0
      have h0 : ¬ (((0 : Nat) : Int) > 0) := by omega
      have h00 : ¬ ((0 : Int) < ((0 : Nat) : Int)) := by omega
      go_wp2_with fail
      refine (CC.out _ _ S (by omega)).mono ?_
      rintro e w5 ⟨v, rfl, S5, g5⟩
      have R5 := R.grown g5 (fun b hb e => by have := (hOl.out b hb).1; simp at e; omega)
      have G5 := G.grown g5 (by have := hWr.out; omega) (by intro k hk; simp at hk; omega)
      have O5 := O.past g5 hB
      have Z5 := g5.size
      clear S R G O g5
      cases v
      · have R6 := Hid.mk R5
        have G6 := Hid.mk G5
        have O6 := Hid.mk O5
        have hlt := (O5.lt _ rfl).2
        simp only at hlt
        clear R5 G5 O5 S5
        go_wp2
        refine bodyPost_ret (v := .tuple #[.slice c k d, .slice (some ⟨g, 0, none⟩) os.length e2]) (by simp [results, Try.results27, go_sem]) rfl ⟨c, d, k, xs, g, e2, os, rfl, HT.out, ⟨by omega, own_cap9 O6.out, hlt⟩, R6.out, O6.out.rd, G6.out⟩
      · go_wp2_with fail
        refine (CP.out _ _ S5 (by omega)).mono ?_
        rintro e w6 ⟨v, rfl, hv, S6, g6⟩
        have R6 := R5.grown g6 (fun b hb e => by have := (hOl.out b hb).1; simp at e; omega)
        have G6 := G5.grown g6 (by have := hWr.out; omega) (by intro k hk; simp at hk; omega)
        have O6 := O5.past g6 hB
        have Z6 := g6.size
        clear S5 R5 G5 O5 g6 S6
        have bL := belowA w6 (.cells #[.int .i64 v] 2)
        have R7 := Hid.mk (R6.kept bL)
        have G7 := Hid.mk (thenB G6 bL)
        have O7 := Hid.mk (O6.kept bL)
        have TL : W1 ≤ (w6.alloc (.cells #[.int .i64 v] 2)).heap.size := by have := hWr.out; simp; omega
        clear R6 G6 O6 bL
        go_wp2_with (at_builtin; go_loud (refine wpList_putI _ rfl _ _ rfl W1 _ e2 os os.length rfl rfl O7.out _ 1 v rfl (cell_one' _ _ _ 0 _ rfl) (by omega) TL ?_))
        intro c4 d4 w8 O8 hg8 hx8
        obtain ⟨g8, rfl, _, hg8lt⟩ := hx8.out
        have hgw := (O7.out.lt _ rfl).1
        simp only at hgw
        have R8 := Hid.mk (R7.out.grown hg8 (fun b hb e => by have := (hOl.out b hb).2; simp at e; omega))
        have G8 := Hid.mk (G7.out.grown hg8 (by have := hWr.out; (try simp only [World.size_alloc]); omega) (by intro k hk; simp at hk; omega))
        have O9 := Hid.mk O8
        have HLen : Hid ((os ++ [v]).length = os.length + 1) := Hid.mk (by simp)
        clear O8 hg8 hx8 R7 G7 O7 TL
        go_wp2
        refine bodyPost_ret (v := .tuple #[.slice c k d, .slice (some ⟨g8, 0, none⟩) (os.length + 1) d4]) (by simp [results, Try.results27, go_sem]) rfl ⟨c, d, k, xs, g8, d4, os ++ [v], by rw [HLen.out], HT.out, ⟨by rw [HLen.out]; omega, own_cap9 O9.out, hg8lt⟩, R8.out, O9.out.rd, G8.out⟩
    · have hj1 : (0 : Int) < (j : Int) := by omega
      go_wp2_with fail
      refine (CM.out _).mono ?_
      rintro e wq ⟨rfl, hwq⟩
      rw [hwq]
      clear hwq wq
      go_wp2_with fail
      refine (CN.out _ _ S (by omega)).mono ?_
      rintro e w6 ⟨v, rfl, _, _, S6, g6⟩
      have R6 := R.grown g6 (fun b hb e => by have := (hOl.out b hb).1; simp at e; omega)
      have G6 := G.grown g6 (by have := hWr.out; omega) (by intro k hk; simp at hk; omega)
      have O6 := O.past g6 hB
      have Z6 := g6.size
      clear S R G O g6
      have bL := belowA w6 (.cells #[.int .i64 v] 2)
      have R7 := Hid.mk (R6.kept bL)
      have G7 := Hid.mk (thenB G6 bL)
      have O7 := Hid.mk (O6.kept bL)
      have S7 := Hid.mk (S6.kept bL)
      have TL : W1 ≤ (w6.alloc (.cells #[.int .i64 v] 2)).heap.size := by have := hWr.out; simp; omega
      clear R6 G6 O6 S6 bL
      go_wp2_with (at_builtin; go_loud (refine wpList_putI _ rfl _ _ rfl W1 _ e2 os os.length rfl rfl O7.out _ 1 v rfl (cell_one' _ _ _ 0 _ rfl) (by omega) TL ?_))
      intro c4 d4 w8 O8 hg8 hx8
      obtain ⟨g8, rfl, _, hg8lt⟩ := hx8.out
      have hgw := (O7.out.lt _ rfl).1
      simp only at hgw
      have R8 := Hid.mk (R7.out.grown hg8 (fun b hb e => by have := (hOl.out b hb).2; simp at e; omega))
      have G8 := Hid.mk (G7.out.grown hg8 (by have := hWr.out; (try simp only [World.size_alloc]); omega) (by intro k hk; simp at hk; omega))
      have S8 := Hid.mk (S7.out.grownAway hg8 (fun q hq => by simp at hq; subst hq; omega))
      have Z8 := hg8.size
      simp only [World.size_alloc] at Z8
      have W8 : Hid (W1 ≤ w8.heap.size) := Hid.mk (by have := hWr.out; omega)
      have O9 := Hid.mk O8
      have HLen : Hid ((os ++ [v]).length = os.length + 1) := Hid.mk (by simp)
      obtain ⟨i, rfl⟩ : ∃ i, j = i + 1 := ⟨j - 1, by omega⟩
      clear O8 hg8 hx8 R7 G7 O7 S7 TL
      go_wp2
      go_roundw
      case rel => exact ⟨i, g8, d4, os ++ [v], qq + 1, by omega, by go_num, by rw [HLen.out], by rw [HLen.out]; omega, O9.out, by omega, S8.out, R8.out, G8.out, W8⟩
      case measure => first | (simp [intOf]; done) | (simp [intOf]; omega)

end Go.Proofs.Ythkmoabkeblbjaa
