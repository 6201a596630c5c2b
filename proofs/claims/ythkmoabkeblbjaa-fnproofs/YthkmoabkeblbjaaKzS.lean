/- The draws of chapter 9: a term by its op, MakeProof, MakeKeys. -/
import Derived.Test.YthkmoabkeblbjaaDb
import Derived.Test.YthkmoabkeblbjaaIntA
import Derived.Test.YthkmoabkeblbjaaZl
namespace Go.Proofs.Ythkmoabkeblbjaa
open Go.RowKit

set_option maxRecDepth 20000 in
set_option maxHeartbeats 4000000 in
theorem l9Op_ok (B : Nat) (a : Option Addr) (n ca : Nat) (zs : List Int) (t : Nat) (w : World) (hs : Src w B a n ca zs t) (hb : Bytes zs) (hn : zs.length = n) (hx : n ≤ 1048577) (ht : t ≤ 8000) (c : Option Addr) (d k : Nat) (xs : List T4) (hR : RdTerm w c xs) (hl : xs.length = k) (hk : k ≤ 401) (hoff : ∀ b : Addr, c = some b → b.block ≠ B) (op : Int) :
    Calls Try.prog 64 #[.pointer (some ⟨B, 0, none⟩), .slice c k d, .int .i64 op] w fun e w' => ∃ (v : Int) (q : Nat), e = .returned (.int .i64 v) ∧ (-1 ≤ v ∧ v ≤ 401) ∧ q ≤ t + 404 ∧ Src w' B a n ca zs q ∧ w.grownBy w' (some B) := by
  have hB : B < w.heap.size := hs.1.1
  have HOF := Hid.mk hoff
  have HL := Hid.mk hl
  have S0 := Hid.mk hs
  have R0 := Hid.mk hR
  have G0 := Hid.mk (World.grownBy.refl w (some B))
  have CC := Hid.mk (fun w t S ht => l1Chance_ok B a n ca zs t 3 w S hb hn hx ht (by omega))
  have CP := Hid.mk (fun w t S ht => l5Place_ok B a n ca zs t w S hb hn hx ht c d k hk)
  clear hs hoff hR hl
  go_enter Try.func64, Try.ntmps64
  go_wp2
  go_loopw [7] (fun i wr => ∃ (j q : Nat), j ≤ k ∧ i = .int .i64 ((j : Int) - 1) ∧ q ≤ t + (k - j) ∧ RdTerm wr c xs ∧ Src wr B a n ca zs q ∧ w.grownBy wr (some B)) (fun i _ => (intOf i + 1).toNat)
  case atStart => exact ⟨k, t, Nat.le_refl _, rfl, by omega, R0.out, S0.out, G0.out⟩
  case round =>
    clear S0 G0 R0
    obtain ⟨j, q, hj, rfl, hq, R, S, G⟩ := hrel
    by_cases hj0 : j = 0
    · subst hj0
      have S1 := Hid.mk S
      have G1 := Hid.mk G
      clear S G R
      have h0 : ¬ ((0 : Int) ≤ ((0 : Nat) : Int) - 1) := by omega
      go_wp2_with fail
      refine (CP.out _ _ S1.out (by omega)).mono ?_
      rintro e w1 ⟨v, rfl, hv, S2, g2⟩
      have S3 := Hid.mk S2
      have G3 := Hid.mk (grownBy_trans G1.out g2)
      clear S2 g2 S1 G1
      go_wp2
      go_ret
      exact ⟨v, _, rfl, hv, by omega, S3.out, G3.out⟩
    · obtain ⟨i, rfl⟩ : ∃ i, j = i + 1 := ⟨j - 1, by omega⟩
      have ei : ((i + 1 : Nat) : Int) - 1 = (i : Int) := by omega
      have hi0 : (0 : Int) ≤ (i : Int) := by omega
      have hik : (i : Int) < (k : Int) := by omega
      rw [ei]
      obtain ⟨x, hxu⟩ : ∃ x, xs.getD i zTerm = x := ⟨_, rfl⟩
      have RH := Hid.mk R
      rcases R with h9 | ⟨b1, o1, rfl, hca⟩
      · have := HL.out; rw [h9] at this; simp at this; omega
      obtain ⟨p0, _, _, _⟩ := RdTerm.cells hca i (by rw [HL.out]; omega) _ hxu
      obtain ⟨xo, xa, xb, xn⟩ := x
      simp only at p0
      clear hca hxu ei
      cases hg : (xo == op)
      · have S1 := Hid.mk S
        have G1 := Hid.mk G
        clear S G
        go_wp2
        go_roundw
        case rel => exact ⟨i, q, by omega, by go_num, by omega, RH.out, S1.out, G1.out⟩
        case measure => first | (simp [intOf]; done) | (simp [intOf]; omega)
      · go_wp2_with fail
        refine (CC.out _ _ S (by omega)).mono ?_
        rintro e w1 ⟨v, rfl, S1, g1⟩
        have R1 := Hid.mk (RH.out.grown g1 (fun b hb e => by have := HOF.out b hb; simp at e; omega))
        have S2 := Hid.mk S1
        have G2 := Hid.mk (grownBy_trans G g1)
        clear S G S1 g1 RH p0
        cases v
        · go_wp2
          go_ret
          exact ⟨(i : Int), q + 1, rfl, by omega, by omega, S2.out, G2.out⟩
        · go_wp2
          go_roundw
          case rel => exact ⟨i, q + 1, by omega, by go_num, by omega, R1.out, S2.out, G2.out⟩
          case measure => first | (simp [intOf]; done) | (simp [intOf]; omega)

set_option maxRecDepth 20000 in
set_option maxHeartbeats 4000000 in
theorem drawMakeProof_ok (a : Option Addr) (n ca : Nat) (zs : List Int) (w : World) (ha : Rd .u8 w a zs) (hb : Bytes zs) (hn : zs.length = n) (hx : n ≤ 1048577) :
    Calls Try.prog 24 #[.slice a n ca] w fun e w' => ∃ (c : Option Addr) (d k : Nat) (xs : List T4) (v1 v2 v3 v4 v5 : Int), e = .returned (.tuple #[.slice c k d, .int .i64 v1, .int .i64 v2, .int .i64 v3, .int .i64 v4, .int .i64 v5]) ∧ (xs.length = k ∧ k ≤ 401 ∧ k ≤ d ∧ (c = none → d = 0) ∧ (∀ x ∈ xs, okT x)) ∧ ((-1 ≤ v1 ∧ v1 ≤ 401) ∧ (-1 ≤ v2 ∧ v2 ≤ 401) ∧ (-1 ≤ v3 ∧ v3 ≤ 401) ∧ (-1 ≤ v4 ∧ v4 ≤ 401) ∧ (-1 ≤ v5 ∧ v5 ≤ 10000)) ∧ RdTerm w' c xs ∧ Below w.heap.size w w' := by
  have S := Src.new w a n ca zs 138 ha
  have G := belowA w (.cells #[.slice a n ca, .int .i64 0] 138)
  go_enter Try.func24, Try.ntmps24
  go_wp2_with (first | (go_at_call 61; go_in) | fail)
  refine (l5Bent_ok w.heap.size a n ca zs 0 _ S hb hn hx (by omega)).mono ?_
  rintro e w1 ⟨c, d, k, xs, q, rfl, hl, hk, hok, O, hq, S1, g1⟩
  clear S
  have hcap := O.cap
  have hnc := ownTerm_nocap O
  rw [hl] at hcap
  have hOl : Hid (∀ b : Addr, c = some b → w.heap.size + 1 ≤ b.block) := Hid.mk (fun b hb => by have := (O.lt b hb).1; simp only [World.size_alloc] at this; omega)
  have R := Hid.mk O.rd
  replace G := Hid.mk (G.grown g1 (by first | (simp; done) | (simp; omega) | omega) (by intro k hk; simp at hk; omega))
  have hz1 := g1.size
  simp only [World.size_alloc] at hz1
  have S := Hid.mk S1
  clear g1 O S1
  have HT := Hid.mk (show xs.length = k ∧ k ≤ 401 ∧ k ≤ d ∧ (c = none → d = 0) ∧ (∀ x ∈ xs, okT x) from ⟨hl, hk, hcap, hnc, hok⟩)
  have hl' := Hid.mk hl
  clear hok hcap hnc hl
  obtain ⟨K, hK⟩ : ∃ K, max (1 : Int) (k : Int) = K := ⟨_, rfl⟩
  have hK1 : 1 ≤ K ∧ K ≤ 401 := by omega
  obtain ⟨hK1, hK2⟩ := hK1
  have CM := Hid.mk (fun w => l1Max_ok 1 (k : Int) w)
  rw [hK] at CM
  clear hK
  go_wp2_with fail
  refine (CM.out _).mono ?_
  rintro e wq ⟨rfl, hwq⟩
  rw [hwq]
  clear hwq wq CM
  go_wp2_with fail
  refine (l9Op_ok w.heap.size a n ca zs (q) _ S.out hb hn hx (by omega) c d k xs R.out hl'.out hk (fun b hb => by have := hOl.out b hb; omega) 2).mono ?_
  rintro e w2 ⟨v1, q2, rfl, hv1, hq2, S2, g⟩
  have Z2 := g.size
  try simp only [World.size_alloc] at Z2
  replace R := Hid.mk (R.out.grown g (fun b hb e => by have := hOl.out b hb; simp at e; omega))
  replace G := Hid.mk (G.out.grown g (by have := G.out.size; (try simp at this); (try simp); omega) (by intro k hk; simp at hk; omega))
  clear S
  have S := Hid.mk S2
  clear g S2
  go_wp2_with fail
  refine (l1Next_ok w.heap.size a n ca zs (q2) K _ S.out hb hn hx (by omega) (by omega)).mono ?_
  rintro e w3 ⟨v2, rfl, hv2, _, S3, g⟩
  have Z3 := g.size
  try simp only [World.size_alloc] at Z3
  replace R := Hid.mk (R.out.grown g (fun b hb e => by have := hOl.out b hb; simp at e; omega))
  replace G := Hid.mk (G.out.grown g (by have := G.out.size; (try simp at this); (try simp); omega) (by intro k hk; simp at hk; omega))
  clear S
  have S := Hid.mk S3
  clear g S3
  have rv2 := hv2 (by omega)
  replace hv2 : -1 ≤ v2 ∧ v2 ≤ 401 := by omega
  clear rv2
  go_wp2_with fail
  refine (l1Next_ok w.heap.size a n ca zs (q2 + 1) K _ S.out hb hn hx (by omega) (by omega)).mono ?_
  rintro e w4 ⟨v3, rfl, hv3, _, S4, g⟩
  have Z4 := g.size
  try simp only [World.size_alloc] at Z4
  replace R := Hid.mk (R.out.grown g (fun b hb e => by have := hOl.out b hb; simp at e; omega))
  replace G := Hid.mk (G.out.grown g (by have := G.out.size; (try simp at this); (try simp); omega) (by intro k hk; simp at hk; omega))
  clear S
  have S := Hid.mk S4
  clear g S4
  have rv3 := hv3 (by omega)
  replace hv3 : -1 ≤ v3 ∧ v3 ≤ 401 := by omega
  clear rv3
  go_wp2_with fail
  refine (l5Place_ok w.heap.size a n ca zs (q2 + 1 + 1) _ S.out hb hn hx (by omega) c d k hk).mono ?_
  rintro e w5 ⟨v4, rfl, hv4, S5, g⟩
  have Z5 := g.size
  try simp only [World.size_alloc] at Z5
  replace R := Hid.mk (R.out.grown g (fun b hb e => by have := hOl.out b hb; simp at e; omega))
  replace G := Hid.mk (G.out.grown g (by have := G.out.size; (try simp at this); (try simp); omega) (by intro k hk; simp at hk; omega))
  clear S
  have S := Hid.mk S5
  clear g S5
  have bA := belowA w5 (.cells #[.int .i64 1, .int .i64 2, .int .i64 9999, .int .i64 10000] 2)
  have hsz6 := S.out.1.1
  replace R := Hid.mk (R.out.kept bA)
  have hG0 := G.out.size
  replace G := Hid.mk (thenB G.out bA)
  replace S := Hid.mk (S.out.kept bA)
  clear bA
  go_wp2_with fail
  refine (l1Pick_ok w.heap.size a n ca zs (q2 + 1 + 1 + 1 + 1 + 1) w5.heap.size 4 4 [1, 2, 9999, 10000] _ S.out hb hn hx (by omega) rfl (by omega) (by omega) (fun i hi => lit_cells w5 [1, 2, 9999, 10000] _ _ (by simp) i hi) (by omega)).mono ?_
  rintro e w6 ⟨v5, rfl, hv5, S6, g⟩
  have Z6 := g.size
  try simp only [World.size_alloc] at Z6
  replace R := Hid.mk (R.out.grown g (fun b hb e => by have := hOl.out b hb; simp at e; omega))
  replace G := Hid.mk (G.out.grown g (by have := G.out.size; (try simp at this); (try simp); omega) (by intro k hk; simp at hk; omega))
  clear S
  have S := Hid.mk S6
  clear g S6
  simp only [List.mem_cons, List.not_mem_nil, or_false] at hv5
  replace hv5 : -1 ≤ v5 ∧ v5 ≤ 10000 := by omega
  clear hG0
  go_wp2
  refine bodyPost_ret (v := .tuple #[.slice c k d, .int .i64 v1, .int .i64 v2, .int .i64 v3, .int .i64 v4, .int .i64 v5]) (by simp [results, Try.results24, go_sem]) rfl ⟨c, d, k, xs, v1, v2, v3, v4, v5, rfl, HT.out, ⟨hv1, hv2, hv3, hv4, hv5⟩, R.out, G.out⟩

set_option maxRecDepth 20000 in
set_option maxHeartbeats 4000000 in
theorem drawMakeKeys_ok (a : Option Addr) (n ca : Nat) (zs : List Int) (w : World) (ha : Rd .u8 w a zs) (hb : Bytes zs) (hn : zs.length = n) (hx : n ≤ 1048577) :
    Calls Try.prog 14 #[.slice a n ca] w fun e w' => ∃ (c : Option Addr) (d k : Nat) (xs : List T4) (v3 v4 v1 v2 v5 v6 : Int), e = .returned (.tuple #[.slice c k d, .int .i64 v3, .int .i64 v4, .int .i64 v1, .int .i64 v2, .int .i64 v5, .int .i64 v6]) ∧ (xs.length = k ∧ k ≤ 401 ∧ k ≤ d ∧ (c = none → d = 0) ∧ (∀ x ∈ xs, okT x)) ∧ ((-1 ≤ v3 ∧ v3 ≤ 401) ∧ (-1 ≤ v4 ∧ v4 ≤ 401) ∧ (-1 ≤ v1 ∧ v1 ≤ 401) ∧ (-1 ≤ v2 ∧ v2 ≤ 401) ∧ (-1 ≤ v5 ∧ v5 ≤ 10000) ∧ (-1 ≤ v6 ∧ v6 ≤ 10000)) ∧ RdTerm w' c xs ∧ Below w.heap.size w w' := by
  have S := Src.new w a n ca zs 138 ha
  have G := belowA w (.cells #[.slice a n ca, .int .i64 0] 138)
  go_enter Try.func14, Try.ntmps14
  go_wp2_with (first | (go_at_call 61; go_in) | fail)
  refine (l5Bent_ok w.heap.size a n ca zs 0 _ S hb hn hx (by omega)).mono ?_
  rintro e w1 ⟨c, d, k, xs, q, rfl, hl, hk, hok, O, hq, S1, g1⟩
  clear S
  have hcap := O.cap
  have hnc := ownTerm_nocap O
  rw [hl] at hcap
  have hOl : Hid (∀ b : Addr, c = some b → w.heap.size + 1 ≤ b.block) := Hid.mk (fun b hb => by have := (O.lt b hb).1; simp only [World.size_alloc] at this; omega)
  have R := Hid.mk O.rd
  replace G := Hid.mk (G.grown g1 (by first | (simp; done) | (simp; omega) | omega) (by intro k hk; simp at hk; omega))
  have hz1 := g1.size
  simp only [World.size_alloc] at hz1
  have S := Hid.mk S1
  clear g1 O S1
  have HT := Hid.mk (show xs.length = k ∧ k ≤ 401 ∧ k ≤ d ∧ (c = none → d = 0) ∧ (∀ x ∈ xs, okT x) from ⟨hl, hk, hcap, hnc, hok⟩)
  have hl' := Hid.mk hl
  clear hok hcap hnc hl
  obtain ⟨K, hK⟩ : ∃ K, max (1 : Int) (k : Int) = K := ⟨_, rfl⟩
  have hK1 : 1 ≤ K ∧ K ≤ 401 := by omega
  obtain ⟨hK1, hK2⟩ := hK1
  have CM := Hid.mk (fun w => l1Max_ok 1 (k : Int) w)
  rw [hK] at CM
  clear hK
  go_wp2_with fail
  refine (CM.out _).mono ?_
  rintro e wq ⟨rfl, hwq⟩
  rw [hwq]
  clear hwq wq CM
  go_wp2_with fail
  refine (l9Op_ok w.heap.size a n ca zs (q) _ S.out hb hn hx (by omega) c d k xs R.out hl'.out hk (fun b hb => by have := hOl.out b hb; omega) 2).mono ?_
  rintro e w2 ⟨v1, q2, rfl, hv1, hq2, S2, g⟩
  have Z2 := g.size
  try simp only [World.size_alloc] at Z2
  replace R := Hid.mk (R.out.grown g (fun b hb e => by have := hOl.out b hb; simp at e; omega))
  replace G := Hid.mk (G.out.grown g (by have := G.out.size; (try simp at this); (try simp); omega) (by intro k hk; simp at hk; omega))
  clear S
  have S := Hid.mk S2
  clear g S2
  go_wp2_with fail
  refine (l9Op_ok w.heap.size a n ca zs (q2) _ S.out hb hn hx (by omega) c d k xs R.out hl'.out hk (fun b hb => by have := hOl.out b hb; omega) 6).mono ?_
  rintro e w3 ⟨v2, q3, rfl, hv2, hq3, S3, g⟩
  have Z3 := g.size
  try simp only [World.size_alloc] at Z3
  replace R := Hid.mk (R.out.grown g (fun b hb e => by have := hOl.out b hb; simp at e; omega))
  replace G := Hid.mk (G.out.grown g (by have := G.out.size; (try simp at this); (try simp); omega) (by intro k hk; simp at hk; omega))
  clear S
  have S := Hid.mk S3
  clear g S3
  go_wp2_with fail
  refine (l1Next_ok w.heap.size a n ca zs (q3) K _ S.out hb hn hx (by omega) (by omega)).mono ?_
  rintro e w4 ⟨v3, rfl, hv3, _, S4, g⟩
  have Z4 := g.size
  try simp only [World.size_alloc] at Z4
  replace R := Hid.mk (R.out.grown g (fun b hb e => by have := hOl.out b hb; simp at e; omega))
  replace G := Hid.mk (G.out.grown g (by have := G.out.size; (try simp at this); (try simp); omega) (by intro k hk; simp at hk; omega))
  clear S
  have S := Hid.mk S4
  clear g S4
  have rv3 := hv3 (by omega)
  replace hv3 : -1 ≤ v3 ∧ v3 ≤ 401 := by omega
  clear rv3
  go_wp2_with fail
  refine (l1Next_ok w.heap.size a n ca zs (q3 + 1) K _ S.out hb hn hx (by omega) (by omega)).mono ?_
  rintro e w5 ⟨v4, rfl, hv4, _, S5, g⟩
  have Z5 := g.size
  try simp only [World.size_alloc] at Z5
  replace R := Hid.mk (R.out.grown g (fun b hb e => by have := hOl.out b hb; simp at e; omega))
  replace G := Hid.mk (G.out.grown g (by have := G.out.size; (try simp at this); (try simp); omega) (by intro k hk; simp at hk; omega))
  clear S
  have S := Hid.mk S5
  clear g S5
  have rv4 := hv4 (by omega)
  replace hv4 : -1 ≤ v4 ∧ v4 ≤ 401 := by omega
  clear rv4
  have bA := belowA w5 (.cells #[.int .i64 100, .int .i64 5, .int .i64 9999, .int .i64 10000] 2)
  have hsz6 := S.out.1.1
  replace R := Hid.mk (R.out.kept bA)
  have hG0 := G.out.size
  replace G := Hid.mk (thenB G.out bA)
  replace S := Hid.mk (S.out.kept bA)
  clear bA
  go_wp2_with fail
  refine (l1Pick_ok w.heap.size a n ca zs (q3 + 1 + 1) w5.heap.size 4 4 [100, 5, 9999, 10000] _ S.out hb hn hx (by omega) rfl (by omega) (by omega) (fun i hi => lit_cells w5 [100, 5, 9999, 10000] _ _ (by simp) i hi) (by omega)).mono ?_
  rintro e w6 ⟨v5, rfl, hv5, S6, g⟩
  have Z6 := g.size
  try simp only [World.size_alloc] at Z6
  replace R := Hid.mk (R.out.grown g (fun b hb e => by have := hOl.out b hb; simp at e; omega))
  replace G := Hid.mk (G.out.grown g (by have := G.out.size; (try simp at this); (try simp); omega) (by intro k hk; simp at hk; omega))
  clear S
  have S := Hid.mk S6
  clear g S6
  simp only [List.mem_cons, List.not_mem_nil, or_false] at hv5
  replace hv5 : -1 ≤ v5 ∧ v5 ≤ 10000 := by omega
  clear hG0
  have bA := belowA w6 (.cells #[.int .i64 200, .int .i64 0, .int .i64 7, .int .i64 (-1)] 2)
  have hsz7 := S.out.1.1
  replace R := Hid.mk (R.out.kept bA)
  have hG0 := G.out.size
  replace G := Hid.mk (thenB G.out bA)
  replace S := Hid.mk (S.out.kept bA)
  clear bA
  go_wp2_with fail
  refine (l1Pick_ok w.heap.size a n ca zs (q3 + 1 + 1 + 1) w6.heap.size 4 4 [200, 0, 7, -1] _ S.out hb hn hx (by omega) rfl (by omega) (by omega) (fun i hi => lit_cells w6 [200, 0, 7, -1] _ _ (by simp) i hi) (by omega)).mono ?_
  rintro e w7 ⟨v6, rfl, hv6, S7, g⟩
  have Z7 := g.size
  try simp only [World.size_alloc] at Z7
  replace R := Hid.mk (R.out.grown g (fun b hb e => by have := hOl.out b hb; simp at e; omega))
  replace G := Hid.mk (G.out.grown g (by have := G.out.size; (try simp at this); (try simp); omega) (by intro k hk; simp at hk; omega))
  clear S
  have S := Hid.mk S7
  clear g S7
  simp only [List.mem_cons, List.not_mem_nil, or_false] at hv6
  replace hv6 : -1 ≤ v6 ∧ v6 ≤ 10000 := by omega
  clear hG0
  go_wp2
  refine bodyPost_ret (v := .tuple #[.slice c k d, .int .i64 v3, .int .i64 v4, .int .i64 v1, .int .i64 v2, .int .i64 v5, .int .i64 v6]) (by simp [results, Try.results14, go_sem]) rfl ⟨c, d, k, xs, v3, v4, v1, v2, v5, v6, rfl, HT.out, ⟨hv3, hv4, hv1, hv2, hv5, hv6⟩, R.out, G.out⟩

end Go.Proofs.Ythkmoabkeblbjaa
