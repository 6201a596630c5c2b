/- The draws of a table, a place and another table. -/
import Derived.Test.YthkmoabkeblbjaaDrB
namespace Go.Proofs.Ythkmoabkeblbjaa
open Go.RowKit

theorem OwnTerm.cap {w : World} {base : Nat} {a : Option Addr} {cap : Nat} {xs : List T4} (h : OwnTerm w base a cap xs) : xs.length ≤ cap := by
  rcases h.2 with ⟨_, h0⟩ | ⟨g, cap', cur, hv, _, _, hc, _⟩
  · omega
  · simp only [Value.slice.injEq] at hv
    obtain ⟨_, _, rfl⟩ := hv
    exact hc

set_option maxRecDepth 20000 in
set_option maxHeartbeats 4000000 in
theorem l5Place_ok (B : Nat) (a : Option Addr) (n ca : Nat) (zs : List Int) (t : Nat) (w : World) (hs : Src w B a n ca zs t) (hb : Bytes zs) (hn : zs.length = n) (hx : n ≤ 1048577) (ht : t ≤ 9000) (c : Option Addr) (d k : Nat) (hk : k ≤ 401) :
    Calls Try.prog 88 #[.pointer (some ⟨B, 0, none⟩), .slice c k d] w fun e w' => ∃ v : Int, e = .returned (.int .i64 v) ∧ (-1 ≤ v ∧ v ≤ 401) ∧ Src w' B a n ca zs (t + 1 + 1 + 1) ∧ w.grownBy w' (some B) := by
  obtain ⟨K, hK⟩ : ∃ K, max (1 : Int) (k : Int) = K := ⟨_, rfl⟩
  have hK1 : 1 ≤ K ∧ K ≤ 401 := by omega
  obtain ⟨hK1, hK2⟩ := hK1
  have CM := Hid.mk (fun w => l1Max_ok 1 (k : Int) w)
  rw [hK] at CM
  clear hK
  have hB := hs.1.1
  have S := hs
  have G := World.grownBy.refl w (some B)
  go_enter Try.func88, Try.ntmps88
  go_wp2_with fail
  refine (CM.out _).mono ?_
  rintro e wq ⟨rfl, hwq⟩
  rw [hwq]
  clear hwq wq
  go_wp2_with fail
  refine (l1Next_ok B a n ca zs (t) K _ S hb hn hx (by omega) (by omega)).mono ?_
  rintro e w1 ⟨v1, rfl, hv1, _, S1, g1⟩
  obtain ⟨hv11, hv12⟩ := hv1 (by omega)
  replace G := grownBy_trans G g1
  have Z1 := g1.size
  replace S := S1
  clear g1 S1
  go_wp2_with fail
  refine (CM.out _).mono ?_
  rintro e wq ⟨rfl, hwq⟩
  rw [hwq]
  clear hwq wq
  go_wp2_with fail
  refine (l1Next_ok B a n ca zs (t + 1) K _ S hb hn hx (by omega) (by omega)).mono ?_
  rintro e w2 ⟨v2, rfl, hv2, _, S2, g2⟩
  obtain ⟨hv21, hv22⟩ := hv2 (by omega)
  replace G := grownBy_trans G g2
  have Z2 := g2.size
  replace S := S2
  clear g2 S2
  go_wp2_with fail
  replace G := grown_alloc G (.cells #[.int .i64 ((k : Int) - 1), .int .i64 v1, .int .i64 v2, .int .i64 ((k : Int) - 1), .int .i64 ((k : Int)), .int .i64 (-1)] 2)
  refine (l1Pick_ok B a n ca zs (t + 1 + 1) w2.heap.size 6 6 [(k : Int) - 1, v1, v2, (k : Int) - 1, (k : Int), -1] _ (S.kept (belowA _ _)) hb hn hx (by omega) rfl (by omega) (by omega) (fun i hi => ?_) (by have := S.1.1; omega)).mono ?_
  · exact lit_cells w2 [(k : Int) - 1, v1, v2, (k : Int) - 1, (k : Int), -1] _ _ (by simp) i hi
  rintro e w3 ⟨o, rfl, ho, S3, g3⟩
  replace G := grownBy_trans G g3
  have Z3 := g3.size
  try simp only [World.size_alloc] at Z3
  replace S := S3
  clear g3 S3
  have ho2 : -1 ≤ o ∧ o ≤ 401 := by simp only [List.mem_cons, List.not_mem_nil, or_false] at ho; omega
  clear ho
  have S9 := Hid.mk S
  have G9 := Hid.mk G
  clear S G
  go_wp2
  go_ret
  exact ⟨o, rfl, ho2, S9.out, G9.out⟩

end Go.Proofs.Ythkmoabkeblbjaa
