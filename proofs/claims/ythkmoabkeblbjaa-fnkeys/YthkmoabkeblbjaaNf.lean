/- Put together: KzS, KzL. -/
import Derived.Test.YthkmoabkeblbjaaDb
import Derived.Test.YthkmoabkeblbjaaIntA
import Derived.Test.YthkmoabkeblbjaaZl

/- The draws of chapter 9: a term by its op, MakeProof, MakeKeys. -/
namespace Go.Proofs.Ythkmoabkeblbjaa
open Go.RowKit

set_option maxRecDepth 20000 in
set_option maxHeartbeats 4000000 in
theorem l9Op_ok (B : Nat) (a : Option Addr) (n ca : Nat) (zs : List Int) (t : Nat) (w : World) (hs : Src w B a n ca zs t) (hb : Bytes zs) (hn : zs.length = n) (hx : n ≤ 1048577) (ht : t ≤ 8000) (c : Option Addr) (d k : Nat) (xs : List T4) (hR : RdTerm w c xs) (hl : xs.length = k) (hk : k ≤ 401) (hoff : ∀ b : Addr, c = some b → b.block ≠ B) (op : Int) :
    Calls Try.prog 64 #[.pointer (some ⟨B, 0, none⟩), .slice c k d, .int .i64 op] w fun e w' => ∃ (v : Int) (q : Nat), e = .returned (.int .i64 v) ∧ (-1 ≤ v ∧ v ≤ 401) ∧ q ≤ t + 404 ∧ Src w' B a n ca zs q ∧ w.grownBy w' (some B) := by
  have hB : B < w.heap.size := hs.1.1
  have HOF := Hid.mk hoff
  have HL := Hid.mk hl
  have S0 := Hid.mk hs
  have R0 := Hid.mk hR
  have G0 := Hid.mk (World.grownBy.refl w (some B))
  have CC := Hid.mk (fun w t S ht => l1Chance_ok B a n ca zs t 3 w S hb hn hx ht (by omega))
  have CP := Hid.mk (fun w t S ht => l5Place_ok B a n ca zs t w S hb hn hx ht c d k hk)
  clear hs hoff hR hl
  go_enter Try.func64, Try.ntmps64
  go_wp2
  go_loopw [7] (fun i wr => ∃ (j q : Nat), j ≤ k ∧ i = .int .i64 ((j : Int) - 1) ∧ q ≤ t + (k - j) ∧ RdTerm wr c xs ∧ Src wr B a n ca zs q ∧ w.grownBy wr (some B)) (fun i _ => (intOf i + 1).toNat)
  case atStart => exact ⟨k, t, Nat.le_refl _, rfl, by omega, R0.out, S0.out, G0.out⟩
  case round =>
    clear S0 G0 R0
    obtain ⟨j, q, hj, rfl, hq, R, S, G⟩ := hrel
    by_cases hj0 : j = 0
    · subst hj0
      have S1 := Hid.mk S
      have G1 := Hid.mk G
      clear S G R
      have h0 : ¬ ((0 : Int) ≤ ((0 : Nat) : Int) - 1) := by omega
      go_wp2_with fail
      refine (CP.out _ _ S1.out (by omega)).mono ?_
      rintro e w1 ⟨v, rfl, hv, S2, g2⟩
      have S3 := Hid.mk S2
      have G3 := Hid.mk (grownBy_trans G1.out g2)
      clear S2 g2 S1 G1
      go_wp2
      go_ret
      exact ⟨v, _, rfl, hv, by omega, S3.out, G3.out⟩
    · obtain ⟨i, rfl⟩ : ∃ i, j = i + 1 := ⟨j - 1, by omega⟩
      have ei : ((i + 1 : Nat) : Int) - 1 = (i : Int) := by omega
      have hi0 : (0 : Int) ≤ (i : Int) := by omega
      have hik : (i : Int) < (k : Int) := by omega
      rw [ei]
      obtain ⟨x, hxu⟩ : ∃ x, xs.getD i zTerm = x := ⟨_, rfl⟩
      have RH := Hid.mk R
      rcases R with h9 | ⟨b1, o1, rfl, hca⟩
      · have := HL.out; rw [h9] at this; simp at this; omega
      obtain ⟨p0, _, _, _⟩ := RdTerm.cells hca i (by rw [HL.out]; omega) _ hxu
      obtain ⟨xo, xa, xb, xn⟩ := x
      simp only at p0
      clear hca hxu ei
      cases hg : (xo == op)
      · have S1 := Hid.mk S
        have G1 := Hid.mk G
        clear S G
        go_wp2
        go_roundw
        case rel => exact ⟨i, q, by omega, by go_num, by omega, RH.out, S1.out, G1.out⟩
        case measure => first | (simp [intOf]; done) | (simp [intOf]; omega)
      · go_wp2_with fail
        refine (CC.out _ _ S (by omega)).mono ?_
        rintro e w1 ⟨v, rfl, S1, g1⟩
        have R1 := Hid.mk (RH.out.grown g1 (fun b hb e => by have := HOF.out b hb; simp at e; omega))
        have S2 := Hid.mk S1
        have G2 := Hid.mk (grownBy_trans G g1)
        clear S G S1 g1 RH p0
        cases v
        · go_wp2
          go_ret
          exact ⟨(i : Int), q + 1, rfl, by omega, by omega, S2.out, G2.out⟩
        · go_wp2
          go_roundw
          case rel => exact ⟨i, q + 1, by omega, by go_num, by omega, R1.out, S2.out, G2.out⟩
          case measure => first | (simp [intOf]; done) | (simp [intOf]; omega)

set_option maxRecDepth 20000 in
set_option maxHeartbeats 4000000 in
theorem drawMakeProof_ok (a : Option Addr) (n ca : Nat) (zs : List Int) (w : World) (ha : Rd .u8 w a zs) (hb : Bytes zs) (hn : zs.length = n) (hx : n ≤ 1048577) :
    Calls Try.prog 24 #[.slice a n ca] w fun e w' => ∃ (c : Option Addr) (d k : Nat) (xs : List T4) (v1 v2 v3 v4 v5 : Int), e = .returned (.tuple #[.slice c k d, .int .i64 v1, .int .i64 v2, .int .i64 v3, .int .i64 v4, .int .i64 v5]) ∧ (xs.length = k ∧ k ≤ 401 ∧ k ≤ d ∧ (c = none → d = 0) ∧ (∀ x ∈ xs, okT x)) ∧ ((-1 ≤ v1 ∧ v1 ≤ 401) ∧ (-1 ≤ v2 ∧ v2 ≤ 401) ∧ (-1 ≤ v3 ∧ v3 ≤ 401) ∧ (-1 ≤ v4 ∧ v4 ≤ 401) ∧ (-1 ≤ v5 ∧ v5 ≤ 10000)) ∧ RdTerm w' c xs ∧ Below w.heap.size w w' := by
  have S := Src.new w a n ca zs 138 ha
  have G := belowA w (.cells #[.slice a n ca, .int .i64 0] 138)
  go_enter Try.func24, Try.ntmps24
  go_wp2_with (first | (go_at_call 61; go_in) | fail)
  refine (l5Bent_ok w.heap.size a n ca zs 0 _ S hb hn hx (by omega)).mono ?_
  rintro e w1 ⟨c, d, k, xs, q, rfl, hl, hk, hok, O, hq, S1, g1⟩
  clear S
  have hcap := O.cap
  have hnc := ownTerm_nocap O
  rw [hl] at hcap
  have hOl : Hid (∀ b : Addr, c = some b → w.heap.size + 1 ≤ b.block) := Hid.mk (fun b hb => by have := (O.lt b hb).1; simp only [World.size_alloc] at this; omega)
  have R := Hid.mk O.rd
  replace G := Hid.mk (G.grown g1 (by first | (simp; done) | (simp; omega) | omega) (by intro k hk; simp at hk; omega))
  have hz1 := g1.size
  simp only [World.size_alloc] at hz1
  have S := Hid.mk S1
  clear g1 O S1
  have HT := Hid.mk (show xs.length = k ∧ k ≤ 401 ∧ k ≤ d ∧ (c = none → d = 0) ∧ (∀ x ∈ xs, okT x) from ⟨hl, hk, hcap, hnc, hok⟩)
  have hl' := Hid.mk hl
  clear hok hcap hnc hl
  obtain ⟨K, hK⟩ : ∃ K, max (1 : Int) (k : Int) = K := ⟨_, rfl⟩
  have hK1 : 1 ≤ K ∧ K ≤ 401 := by omega
  obtain ⟨hK1, hK2⟩ := hK1
  have CM := Hid.mk (fun w => l1Max_ok 1 (k : Int) w)
  rw [hK] at CM
  clear hK
  go_wp2_with fail
  refine (CM.out _).mono ?_
  rintro e wq ⟨rfl, hwq⟩
  rw [hwq]
  clear hwq wq CM
  go_wp2_with fail
  refine (l9Op_ok w.heap.size a n ca zs (q) _ S.out hb hn hx (by omega) c d k xs R.out hl'.out hk (fun b hb => by have := hOl.out b hb; omega) 2).mono ?_
  rintro e w2 ⟨v1, q2, rfl, hv1, hq2, S2, g⟩
  have Z2 := g.size
  try simp only [World.size_alloc] at Z2
  replace R := Hid.mk (R.out.grown g (fun b hb e => by have := hOl.out b hb; simp at e; omega))
  replace G := Hid.mk (G.out.grown g (by have := G.out.size; (try simp at this); (try simp); omega) (by intro k hk; simp at hk; omega))
  clear S
  have S := Hid.mk S2
  clear g S2
  go_wp2_with fail
  refine (l1Next_ok w.heap.size a n ca zs (q2) K _ S.out hb hn hx (by omega) (by omega)).mono ?_
  rintro e w3 ⟨v2, rfl, hv2, _, S3, g⟩
  have Z3 := g.size
  try simp only [World.size_alloc] at Z3
  replace R := Hid.mk (R.out.grown g (fun b hb e => by have := hOl.out b hb; simp at e; omega))
  replace G := Hid.mk (G.out.grown g (by have := G.out.size; (try simp at this); (try simp); omega) (by intro k hk; simp at hk; omega))
  clear S
  have S := Hid.mk S3
  clear g S3
  have rv2 := hv2 (by omega)
  replace hv2 : -1 ≤ v2 ∧ v2 ≤ 401 := by omega
  clear rv2
  go_wp2_with fail
  refine (l1Next_ok w.heap.size a n ca zs (q2 + 1) K _ S.out hb hn hx (by omega) (by omega)).mono ?_
  rintro e w4 ⟨v3, rfl, hv3, _, S4, g⟩
  have Z4 := g.size
  try simp only [World.size_alloc] at Z4
  replace R := Hid.mk (R.out.grown g (fun b hb e => by have := hOl.out b hb; simp at e; omega))
  replace G := Hid.mk (G.out.grown g (by have := G.out.size; (try simp at this); (try simp); omega) (by intro k hk; simp at hk; omega))
  clear S
  have S := Hid.mk S4
  clear g S4
  have rv3 := hv3 (by omega)
  replace hv3 : -1 ≤ v3 ∧ v3 ≤ 401 := by omega
  clear rv3
  go_wp2_with fail
  refine (l5Place_ok w.heap.size a n ca zs (q2 + 1 + 1) _ S.out hb hn hx (by omega) c d k hk).mono ?_
  rintro e w5 ⟨v4, rfl, hv4, S5, g⟩
  have Z5 := g.size
  try simp only [World.size_alloc] at Z5
  replace R := Hid.mk (R.out.grown g (fun b hb e => by have := hOl.out b hb; simp at e; omega))
  replace G := Hid.mk (G.out.grown g (by have := G.out.size; (try simp at this); (try simp); omega) (by intro k hk; simp at hk; omega))
  clear S
  have S := Hid.mk S5
  clear g S5
  have bA := belowA w5 (.cells #[.int .i64 1, .int .i64 2, .int .i64 9999, .int .i64 10000] 2)
  have hsz6 := S.out.1.1
  replace R := Hid.mk (R.out.kept bA)
  have hG0 := G.out.size
  replace G := Hid.mk (thenB G.out bA)
  replace S := Hid.mk (S.out.kept bA)
  clear bA
  go_wp2_with fail
  refine (l1Pick_ok w.heap.size a n ca zs (q2 + 1 + 1 + 1 + 1 + 1) w5.heap.size 4 4 [1, 2, 9999, 10000] _ S.out hb hn hx (by omega) rfl (by omega) (by omega) (fun i hi => lit_cells w5 [1, 2, 9999, 10000] _ _ (by simp) i hi) (by omega)).mono ?_
  rintro e w6 ⟨v5, rfl, hv5, S6, g⟩
  have Z6 := g.size
  try simp only [World.size_alloc] at Z6
  replace R := Hid.mk (R.out.grown g (fun b hb e => by have := hOl.out b hb; simp at e; omega))
  replace G := Hid.mk (G.out.grown g (by have := G.out.size; (try simp at this); (try simp); omega) (by intro k hk; simp at hk; omega))
  clear S
  have S := Hid.mk S6
  clear g S6
  simp only [List.mem_cons, List.not_mem_nil, or_false] at hv5
  replace hv5 : -1 ≤ v5 ∧ v5 ≤ 10000 := by omega
  clear hG0
  go_wp2
  refine bodyPost_ret (v := .tuple #[.slice c k d, .int .i64 v1, .int .i64 v2, .int .i64 v3, .int .i64 v4, .int .i64 v5]) (by simp [results, Try.results24, go_sem]) rfl ⟨c, d, k, xs, v1, v2, v3, v4, v5, rfl, HT.out, ⟨hv1, hv2, hv3, hv4, hv5⟩, R.out, G.out⟩

set_option maxRecDepth 20000 in
set_option maxHeartbeats 4000000 in
theorem drawMakeKeys_ok (a : Option Addr) (n ca : Nat) (zs : List Int) (w : World) (ha : Rd .u8 w a zs) (hb : Bytes zs) (hn : zs.length = n) (hx : n ≤ 1048577) :
    Calls Try.prog 14 #[.slice a n ca] w fun e w' => ∃ (c : Option Addr) (d k : Nat) (xs : List T4) (v3 v4 v1 v2 v5 v6 : Int), e = .returned (.tuple #[.slice c k d, .int .i64 v3, .int .i64 v4, .int .i64 v1, .int .i64 v2, .int .i64 v5, .int .i64 v6]) ∧ (xs.length = k ∧ k ≤ 401 ∧ k ≤ d ∧ (c = none → d = 0) ∧ (∀ x ∈ xs, okT x)) ∧ ((-1 ≤ v3 ∧ v3 ≤ 401) ∧ (-1 ≤ v4 ∧ v4 ≤ 401) ∧ (-1 ≤ v1 ∧ v1 ≤ 401) ∧ (-1 ≤ v2 ∧ v2 ≤ 401) ∧ (-1 ≤ v5 ∧ v5 ≤ 10000) ∧ (-1 ≤ v6 ∧ v6 ≤ 10000)) ∧ RdTerm w' c xs ∧ Below w.heap.size w w' := by
  have S := Src.new w a n ca zs 138 ha
  have G := belowA w (.cells #[.slice a n ca, .int .i64 0] 138)
  go_enter Try.func14, Try.ntmps14
  go_wp2_with (first | (go_at_call 61; go_in) | fail)
  refine (l5Bent_ok w.heap.size a n ca zs 0 _ S hb hn hx (by omega)).mono ?_
  rintro e w1 ⟨c, d, k, xs, q, rfl, hl, hk, hok, O, hq, S1, g1⟩
  clear S
  have hcap := O.cap
  have hnc := ownTerm_nocap O
  rw [hl] at hcap
  have hOl : Hid (∀ b : Addr, c = some b → w.heap.size + 1 ≤ b.block) := Hid.mk (fun b hb => by have := (O.lt b hb).1; simp only [World.size_alloc] at this; omega)
  have R := Hid.mk O.rd
  replace G := Hid.mk (G.grown g1 (by first | (simp; done) | (simp; omega) | omega) (by intro k hk; simp at hk; omega))
  have hz1 := g1.size
  simp only [World.size_alloc] at hz1
  have S := Hid.mk S1
  clear g1 O S1
  have HT := Hid.mk (show xs.length = k ∧ k ≤ 401 ∧ k ≤ d ∧ (c = none → d = 0) ∧ (∀ x ∈ xs, okT x) from ⟨hl, hk, hcap, hnc, hok⟩)
  have hl' := Hid.mk hl
  clear hok hcap hnc hl
  obtain ⟨K, hK⟩ : ∃ K, max (1 : Int) (k : Int) = K := ⟨_, rfl⟩
  have hK1 : 1 ≤ K ∧ K ≤ 401 := by omega
  obtain ⟨hK1, hK2⟩ := hK1
  have CM := Hid.mk (fun w => l1Max_ok 1 (k : Int) w)
  rw [hK] at CM
  clear hK
  go_wp2_with fail
  refine (CM.out _).mono ?_
  rintro e wq ⟨rfl, hwq⟩
  rw [hwq]
  clear hwq wq CM
  go_wp2_with fail
  refine (l9Op_ok w.heap.size a n ca zs (q) _ S.out hb hn hx (by omega) c d k xs R.out hl'.out hk (fun b hb => by have := hOl.out b hb; omega) 2).mono ?_
  rintro e w2 ⟨v1, q2, rfl, hv1, hq2, S2, g⟩
  have Z2 := g.size
  try simp only [World.size_alloc] at Z2
  replace R := Hid.mk (R.out.grown g (fun b hb e => by have := hOl.out b hb; simp at e; omega))
  replace G := Hid.mk (G.out.grown g (by have := G.out.size; (try simp at this); (try simp); omega) (by intro k hk; simp at hk; omega))
  clear S
  have S := Hid.mk S2
  clear g S2
  go_wp2_with fail
  refine (l9Op_ok w.heap.size a n ca zs (q2) _ S.out hb hn hx (by omega) c d k xs R.out hl'.out hk (fun b hb => by have := hOl.out b hb; omega) 6).mono ?_
  rintro e w3 ⟨v2, q3, rfl, hv2, hq3, S3, g⟩
  have Z3 := g.size
  try simp only [World.size_alloc] at Z3
  replace R := Hid.mk (R.out.grown g (fun b hb e => by have := hOl.out b hb; simp at e; omega))
  replace G := Hid.mk (G.out.grown g (by have := G.out.size; (try simp at this); (try simp); omega) (by intro k hk; simp at hk; omega))
  clear S
  have S := Hid.mk S3
  clear g S3
  go_wp2_with fail
  refine (l1Next_ok w.heap.size a n ca zs (q3) K _ S.out hb hn hx (by omega) (by omega)).mono ?_
  rintro e w4 ⟨v3, rfl, hv3, _, S4, g⟩
  have Z4 := g.size
  try simp only [World.size_alloc] at Z4
  replace R := Hid.mk (R.out.grown g (fun b hb e => by have := hOl.out b hb; simp at e; omega))
  replace G := Hid.mk (G.out.grown g (by have := G.out.size; (try simp at this); (try simp); omega) (by intro k hk; simp at hk; omega))
  clear S
  have S := Hid.mk S4
  clear g S4
  have rv3 := hv3 (by omega)
  replace hv3 : -1 ≤ v3 ∧ v3 ≤ 401 := by omega
  clear rv3
  go_wp2_with fail
  refine (l1Next_ok w.heap.size a n ca zs (q3 + 1) K _ S.out hb hn hx (by omega) (by omega)).mono ?_
  rintro e w5 ⟨v4, rfl, hv4, _, S5, g⟩
  have Z5 := g.size
  try simp only [World.size_alloc] at Z5
  replace R := Hid.mk (R.out.grown g (fun b hb e => by have := hOl.out b hb; simp at e; omega))
  replace G := Hid.mk (G.out.grown g (by have := G.out.size; (try simp at this); (try simp); omega) (by intro k hk; simp at hk; omega))
  clear S
  have S := Hid.mk S5
  clear g S5
  have rv4 := hv4 (by omega)
  replace hv4 : -1 ≤ v4 ∧ v4 ≤ 401 := by omega
  clear rv4
  have bA := belowA w5 (.cells #[.int .i64 100, .int .i64 5, .int .i64 9999, .int .i64 10000] 2)
  have hsz6 := S.out.1.1
  replace R := Hid.mk (R.out.kept bA)
  have hG0 := G.out.size
  replace G := Hid.mk (thenB G.out bA)
  replace S := Hid.mk (S.out.kept bA)
  clear bA
  go_wp2_with fail
  refine (l1Pick_ok w.heap.size a n ca zs (q3 + 1 + 1) w5.heap.size 4 4 [100, 5, 9999, 10000] _ S.out hb hn hx (by omega) rfl (by omega) (by omega) (fun i hi => lit_cells w5 [100, 5, 9999, 10000] _ _ (by simp) i hi) (by omega)).mono ?_
  rintro e w6 ⟨v5, rfl, hv5, S6, g⟩
  have Z6 := g.size
  try simp only [World.size_alloc] at Z6
  replace R := Hid.mk (R.out.grown g (fun b hb e => by have := hOl.out b hb; simp at e; omega))
  replace G := Hid.mk (G.out.grown g (by have := G.out.size; (try simp at this); (try simp); omega) (by intro k hk; simp at hk; omega))
  clear S
  have S := Hid.mk S6
  clear g S6
  simp only [List.mem_cons, List.not_mem_nil, or_false] at hv5
  replace hv5 : -1 ≤ v5 ∧ v5 ≤ 10000 := by omega
  clear hG0
  have bA := belowA w6 (.cells #[.int .i64 200, .int .i64 0, .int .i64 7, .int .i64 (-1)] 2)
  have hsz7 := S.out.1.1
  replace R := Hid.mk (R.out.kept bA)
  have hG0 := G.out.size
  replace G := Hid.mk (thenB G.out bA)
  replace S := Hid.mk (S.out.kept bA)
  clear bA
  go_wp2_with fail
  refine (l1Pick_ok w.heap.size a n ca zs (q3 + 1 + 1 + 1) w6.heap.size 4 4 [200, 0, 7, -1] _ S.out hb hn hx (by omega) rfl (by omega) (by omega) (fun i hi => lit_cells w6 [200, 0, 7, -1] _ _ (by simp) i hi) (by omega)).mono ?_
  rintro e w7 ⟨v6, rfl, hv6, S7, g⟩
  have Z7 := g.size
  try simp only [World.size_alloc] at Z7
  replace R := Hid.mk (R.out.grown g (fun b hb e => by have := hOl.out b hb; simp at e; omega))
  replace G := Hid.mk (G.out.grown g (by have := G.out.size; (try simp at this); (try simp); omega) (by intro k hk; simp at hk; omega))
  clear S
  have S := Hid.mk S7
  clear g S7
  simp only [List.mem_cons, List.not_mem_nil, or_false] at hv6
  replace hv6 : -1 ≤ v6 ∧ v6 ≤ 10000 := by omega
  clear hG0
  go_wp2
  refine bodyPost_ret (v := .tuple #[.slice c k d, .int .i64 v3, .int .i64 v4, .int .i64 v1, .int .i64 v2, .int .i64 v5, .int .i64 v6]) (by simp [results, Try.results14, go_sem]) rfl ⟨c, d, k, xs, v3, v4, v1, v2, v5, v6, rfl, HT.out, ⟨hv3, hv4, hv1, hv2, hv5, hv6⟩, R.out, G.out⟩

end Go.Proofs.Ythkmoabkeblbjaa

/- A right table's terms; the draw of a list. -/
namespace Go.Proofs.Ythkmoabkeblbjaa
open Go.RowKit

/-- The terms of a right table are ones of the language. -/
theorem right_ok {xs : List T4} (h : tfC xs = 0) : ∀ t ∈ xs, okT t := by
  intro t ht
  obtain ⟨k, hk, rfl⟩ := List.getElem_of_mem ht
  have hz := ((tfC_zero h).2 k hk).1
  have e : xs.getD k zTerm = xs[k] := by simp [List.getD, hk]
  rw [e] at hz
  generalize xs[k] = t at *
  obtain ⟨ho, hn, h1, h2, h3, h4, _⟩ := tm_zero hz
  have hl := (tfC_zero h).1
  have hlt : (xs.take k).length ≤ 400 := by rw [List.length_take]; omega
  refine ⟨okI_of (by omega) (by omega), ?_, ?_, okI_of (by omega) (by omega)⟩
  · by_cases c : 0 < kids t.o
    · have := h1 c; exact okI_of (by omega) (by omega)
    · have := h2 (by omega); exact okI_of (by omega) (by omega)
  · by_cases c : 1 < kids t.o
    · have := h4 c; exact okI_of (by omega) (by omega)
    · have := h3 (by omega); exact okI_of (by omega) (by omega)

theorem own_cap9 {w : World} {base : Nat} {a : Option Addr} {cap : Nat} {zs : List Int} (h : Own .i64 2 w base a cap zs) : zs.length ≤ cap := by
  rcases h.2 with ⟨_, h0⟩ | ⟨g, cap', cur, hv, _, _, hc, _⟩
  · omega
  · simp only [Value.slice.injEq] at hv
    obtain ⟨_, _, rfl⟩ := hv
    exact hc
set_option maxRecDepth 20000 in
set_option maxHeartbeats 8000000 in
theorem drawPutList_ok (a : Option Addr) (n ca : Nat) (zs : List Int) (w : World) (ha : Rd .u8 w a zs) (hb : Bytes zs) (hn : zs.length = n) (hx : n ≤ 1048577) :
    Calls Try.prog 27 #[.slice a n ca] w fun e w' => ∃ (c : Option Addr) (d k : Nat) (xs : List T4) (g e2 : Nat) (os : List Int), e = .returned (.tuple #[.slice c k d, .slice (some ⟨g, 0, none⟩) os.length e2]) ∧ (xs.length = k ∧ k ≤ 401 ∧ k ≤ d ∧ (c = none → d = 0) ∧ (∀ x ∈ xs, okT x)) ∧ (os.length ≤ 5 ∧ os.length ≤ e2 ∧ g < w'.heap.size) ∧ RdTerm w' c xs ∧ Rd .i64 w' (some ⟨g, 0, none⟩) os ∧ Below w.heap.size w w' := by
  have S := Src.new w a n ca zs 138 ha
  have G := belowA w (.cells #[.slice a n ca, .int .i64 0] 138)
  go_enter Try.func27, Try.ntmps27
  go_wp2_with (first | (go_at_call 61; go_in) | fail)
  refine (l5Bent_ok w.heap.size a n ca zs 0 _ S hb hn hx (by omega)).mono ?_
  rintro e w1 ⟨c, d, k, xs, q, rfl, hl, hk, hok, O, hq, S1, g1⟩
  clear S
  have hcap := O.cap
  have hnc := ownTerm_nocap O
  rw [hl] at hcap
  have hOl : Hid (∀ b : Addr, c = some b → w.heap.size + 1 ≤ b.block ∧ b.block < w1.heap.size) := Hid.mk (fun b hb => by have := O.lt b hb; simp only [World.size_alloc] at this; omega)
  have R := O.rd
  replace G := G.grown g1 (by first | (simp; done) | (simp; omega) | omega) (by intro k hk; simp at hk; omega)
  have hz1 := g1.size
  simp only [World.size_alloc] at hz1
  clear g1 O
  have HT := Hid.mk (show xs.length = k ∧ k ≤ 401 ∧ k ≤ d ∧ (c = none → d = 0) ∧ (∀ x ∈ xs, okT x) from ⟨hl, hk, hcap, hnc, hok⟩)
  clear hok hcap hnc hl
  have bA := belowA w1 (.cells #[] 2)
  have O0 := OwnI.lit w1 [] [] rfl (Nat.zero_le _)
  replace R := R.kept bA
  replace S1 := S1.kept bA
  replace G := thenB G bA
  clear bA
  have hB : w.heap.size < w1.heap.size := by omega
  go_wp2_with fail
  refine (l1Next_ok w.heap.size a n ca zs q 5 _ S1 hb hn hx (by omega) (by omega)).mono ?_
  rintro e w2 ⟨v0, rfl, hv, _, S2, g⟩
  obtain ⟨hv1, hv2⟩ := hv (by omega)
  have Z2 := g.size
  simp only [World.size_alloc] at Z2
  have R2 := Hid.mk (R.grown g (fun b hb e => by have := (hOl.out b hb).1; simp at e; omega))
  have G2 := Hid.mk (G.grown g (by have := G.size; simp only [World.size_alloc] at this; (try simp only [World.size_alloc]); omega) (by intro k hk; simp at hk; omega))
  have O2 := Hid.mk (O0.past g hB)
  have S3 := Hid.mk S2
  clear g S1 S2 O0 R G hv
  obtain ⟨j0, rfl⟩ : ∃ j : Nat, v0 = (j : Int) := ⟨v0.toNat, by omega⟩
  obtain ⟨K, hK⟩ : ∃ K, max (1 : Int) (k : Int) = K := ⟨_, rfl⟩
  have hK1 : 1 ≤ K ∧ K ≤ 401 := by omega
  obtain ⟨hK1, hK2⟩ := hK1
  have CM := Hid.mk (fun w => l1Max_ok 1 (k : Int) w)
  rw [hK] at CM
  clear hK
  have CN := Hid.mk (fun (wx : World) t S ht => l1Next_ok w.heap.size a n ca zs t K wx S hb hn hx ht (by omega))
  have CC := Hid.mk (fun (wx : World) t S ht => l1Chance_ok w.heap.size a n ca zs t 12 wx S hb hn hx ht (by omega))
  have CP := Hid.mk (fun (wx : World) t S ht => l5Place_ok w.heap.size a n ca zs t wx S hb hn hx ht c d k hk)
  generalize hW1 : w1.heap.size = W1 at *
  go_wp2
  go_loopw [6, 7] (fun s i wr => ∃ (j g e2 : Nat) (os : List Int) (qq : Nat), j ≤ 4 ∧ i = .int .i64 (j : Int) ∧ s = .slice (some ⟨g, 0, none⟩) os.length e2 ∧ os.length + j ≤ 4 ∧ Own .i64 2 wr W1 (some ⟨g, 0, none⟩) e2 os ∧ qq ≤ q + 1 + (4 - j) ∧ Src wr w.heap.size a n ca zs qq ∧ RdTerm wr c xs ∧ Below w.heap.size w wr ∧ Hid (W1 ≤ wr.heap.size)) (fun _ i _ => (intOf i).toNat)
  case atStart => exact ⟨j0, _, _, [], q + 1, by omega, rfl, rfl, by simp; omega, O2.out, by omega, S3.out, R2.out, G2.out, Hid.mk (by omega)⟩
  case round =>
    clear O2 S3 R2 G2
    obtain ⟨j, g, e2, os, qq, hj, rfl, rfl, hoj, O, hqq, S, R, G, hWr⟩ := hrel
    by_cases hj0 : j = 0
    · subst hj0
      have h0 : ¬ (((0 : Nat) : Int) > 0) := by omega
      have h00 : ¬ ((0 : Int) < ((0 : Nat) : Int)) := by omega
      go_wp2_with fail
      refine (CC.out _ _ S (by omega)).mono ?_
      rintro e w5 ⟨v, rfl, S5, g5⟩
      have R5 := R.grown g5 (fun b hb e => by have := (hOl.out b hb).1; simp at e; omega)
      have G5 := G.grown g5 (by have := hWr.out; omega) (by intro k hk; simp at hk; omega)
      have O5 := O.past g5 hB
      have Z5 := g5.size
      clear S R G O g5
      cases v
      · have R6 := Hid.mk R5
        have G6 := Hid.mk G5
        have O6 := Hid.mk O5
        have hlt := (O5.lt _ rfl).2
        simp only at hlt
        clear R5 G5 O5 S5
        go_wp2
        refine bodyPost_ret (v := .tuple #[.slice c k d, .slice (some ⟨g, 0, none⟩) os.length e2]) (by simp [results, Try.results27, go_sem]) rfl ⟨c, d, k, xs, g, e2, os, rfl, HT.out, ⟨by omega, own_cap9 O6.out, hlt⟩, R6.out, O6.out.rd, G6.out⟩
      · go_wp2_with fail
        refine (CP.out _ _ S5 (by omega)).mono ?_
        rintro e w6 ⟨v, rfl, hv, S6, g6⟩
        have R6 := R5.grown g6 (fun b hb e => by have := (hOl.out b hb).1; simp at e; omega)
        have G6 := G5.grown g6 (by have := hWr.out; omega) (by intro k hk; simp at hk; omega)
        have O6 := O5.past g6 hB
        have Z6 := g6.size
        clear S5 R5 G5 O5 g6 S6
        have bL := belowA w6 (.cells #[.int .i64 v] 2)
        have R7 := Hid.mk (R6.kept bL)
        have G7 := Hid.mk (thenB G6 bL)
        have O7 := Hid.mk (O6.kept bL)
        have TL : W1 ≤ (w6.alloc (.cells #[.int .i64 v] 2)).heap.size := by have := hWr.out; simp; omega
        clear R6 G6 O6 bL
        go_wp2_with (at_builtin; go_loud (refine wpList_putI _ rfl _ _ rfl W1 _ e2 os os.length rfl rfl O7.out _ 1 v rfl (cell_one' _ _ _ 0 _ rfl) (by omega) TL ?_))
        intro c4 d4 w8 O8 hg8 hx8
        obtain ⟨g8, rfl, _, hg8lt⟩ := hx8.out
        have hgw := (O7.out.lt _ rfl).1
        simp only at hgw
        have R8 := Hid.mk (R7.out.grown hg8 (fun b hb e => by have := (hOl.out b hb).2; simp at e; omega))
        have G8 := Hid.mk (G7.out.grown hg8 (by have := hWr.out; (try simp only [World.size_alloc]); omega) (by intro k hk; simp at hk; omega))
        have O9 := Hid.mk O8
        have HLen : Hid ((os ++ [v]).length = os.length + 1) := Hid.mk (by simp)
        clear O8 hg8 hx8 R7 G7 O7 TL
        go_wp2
        refine bodyPost_ret (v := .tuple #[.slice c k d, .slice (some ⟨g8, 0, none⟩) (os.length + 1) d4]) (by simp [results, Try.results27, go_sem]) rfl ⟨c, d, k, xs, g8, d4, os ++ [v], by rw [HLen.out], HT.out, ⟨by rw [HLen.out]; omega, own_cap9 O9.out, hg8lt⟩, R8.out, O9.out.rd, G8.out⟩
    · have hj1 : (0 : Int) < (j : Int) := by omega
      go_wp2_with fail
      refine (CM.out _).mono ?_
      rintro e wq ⟨rfl, hwq⟩
      rw [hwq]
      clear hwq wq
      go_wp2_with fail
      refine (CN.out _ _ S (by omega)).mono ?_
      rintro e w6 ⟨v, rfl, _, _, S6, g6⟩
      have R6 := R.grown g6 (fun b hb e => by have := (hOl.out b hb).1; simp at e; omega)
      have G6 := G.grown g6 (by have := hWr.out; omega) (by intro k hk; simp at hk; omega)
      have O6 := O.past g6 hB
      have Z6 := g6.size
      clear S R G O g6
      have bL := belowA w6 (.cells #[.int .i64 v] 2)
      have R7 := Hid.mk (R6.kept bL)
      have G7 := Hid.mk (thenB G6 bL)
      have O7 := Hid.mk (O6.kept bL)
      have S7 := Hid.mk (S6.kept bL)
      have TL : W1 ≤ (w6.alloc (.cells #[.int .i64 v] 2)).heap.size := by have := hWr.out; simp; omega
      clear R6 G6 O6 S6 bL
      go_wp2_with (at_builtin; go_loud (refine wpList_putI _ rfl _ _ rfl W1 _ e2 os os.length rfl rfl O7.out _ 1 v rfl (cell_one' _ _ _ 0 _ rfl) (by omega) TL ?_))
      intro c4 d4 w8 O8 hg8 hx8
      obtain ⟨g8, rfl, _, hg8lt⟩ := hx8.out
      have hgw := (O7.out.lt _ rfl).1
      simp only at hgw
      have R8 := Hid.mk (R7.out.grown hg8 (fun b hb e => by have := (hOl.out b hb).2; simp at e; omega))
      have G8 := Hid.mk (G7.out.grown hg8 (by have := hWr.out; (try simp only [World.size_alloc]); omega) (by intro k hk; simp at hk; omega))
      have S8 := Hid.mk (S7.out.grownAway hg8 (fun q hq => by simp at hq; subst hq; omega))
      have Z8 := hg8.size
      simp only [World.size_alloc] at Z8
      have W8 : Hid (W1 ≤ w8.heap.size) := Hid.mk (by have := hWr.out; omega)
      have O9 := Hid.mk O8
      have HLen : Hid ((os ++ [v]).length = os.length + 1) := Hid.mk (by simp)
      obtain ⟨i, rfl⟩ : ∃ i, j = i + 1 := ⟨j - 1, by omega⟩
      clear O8 hg8 hx8 R7 G7 O7 S7 TL
      go_wp2
      go_roundw
      case rel => exact ⟨i, g8, d4, os ++ [v], qq + 1, by omega, by go_num, by rw [HLen.out], by rw [HLen.out]; omega, O9.out, by omega, S8.out, R8.out, G8.out, W8⟩
      case measure => first | (simp [intOf]; done) | (simp [intOf]; omega)

end Go.Proofs.Ythkmoabkeblbjaa
