/- The law's own helpers over a result with parts, by contracts. -/
import Derived.Test.YtnclfbliimcpgabLots
namespace Go.Proofs.Ytnclfbliimcpgab
open Go.RowKit

set_option maxHeartbeats 1000000 in
theorem markLots_ok (c : Option Addr) (n d base hi : Nat) (q : Int) (ps : List Lot) (w : World) (h : OwnT w base c d ps) (hn : ps.length = n) (hhi : ∀ p ∈ ps, ∀ b, p.1 = some b → b.block < hi) (h0 : 0 ≤ q) (hx : n ≤ 1048576) (ht : q + (total (lotsOf ps) : Int) ≤ 4611686018427387904) :
    Calls Try.prog 21 #[.slice c n d, .int .i64 q] w fun e w' => e = .returned (.int .i64 (q + (total (lotsOf ps) : Int))) ∧ OwnT w' base c d (markTo q ps n) ∧ Within w w' base hi := by
  have HI := Hid.mk hhi
  have hO0 : OwnT w base c d (markTo q ps 0) := by simpa [markTo] using h
  clear hhi h
  go_enter Try.func21, Try.ntmps21
  go_wp2
  go_loopw [1, 5] (fun t i wr => ∃ k : Nat, k ≤ n ∧ i = .int .i64 k ∧ t = .int .i64 (q + (total (lotsOf (ps.take k)) : Int)) ∧ OwnT wr base c d (markTo q ps k) ∧ Within w wr base hi) (fun _ i _ => n - (intOf i).toNat)
  case atStart => exact ⟨0, Nat.zero_le _, rfl, by simp [total, lotsOf], hO0, Within.refl _ _ _⟩
  case round =>
    obtain ⟨k, hk, rfl, rfl, hO, hW⟩ := hrel
    by_cases hlt : k < n
    · obtain ⟨us, bs, e1, e2, e3⟩ := markTo_split q ps k (by omega)
      have hmem := List.getElem_mem (l := ps) (n := k) (by omega)
      have hlen := length_markTo q ps k
      have hT : total (lotsOf (ps.take (k + 1))) = total (lotsOf (ps.take k)) + ps[k].2.2.length := by
        have h1 := total_take (lotsOf ps) k (by simp [lotsOf]; omega)
        simp [lotsOf, show k < ps.length by omega] at h1 ⊢
        exact h1
      have hTl : total (lotsOf (ps.take (k + 1))) ≤ total (lotsOf ps) := by
        have h1 := total_le (lotsOf ps) (k + 1)
        simpa [lotsOf] using h1
      have hhk := HI.out _ hmem
      have H3 := Hid.mk e3
      clear e3 hmem
      generalize ps[k] = p at *
      obtain ⟨pa, pc, pz⟩ := p
      have HT := Hid.mk hT
      have hHT : total (lotsOf (ps.take k)) + pz.length ≤ total (lotsOf ps) := by rw [← hT]; exact hTl
      clear hT hTl
      generalize total (lotsOf (ps.take k)) = T at *
      rw [e1] at hO hlen
      have hrow := hO.1
      obtain ⟨g, cap, hv, _, hg⟩ := World.ownsRow.form hrow (by omega)
      simp only [Value.slice.injEq] at hv
      obtain ⟨rfl, _, rfl⟩ := hv
      have hc := World.ownsRow.cellAt hrow k (by omega)
      have hlook : ((us ++ (pa, pc, pz) :: bs).map rowT)[k]? = some (.slice pa pz.length pc) := by simp [e2, rowT]
      rw [hlook] at hc
      obtain ⟨m, hm⟩ : ∃ m, pz.length = m := ⟨_, rfl⟩
      have HP := Hid.mk (hO.2.1 (pa, pc, pz) (by simp)).1
      have HO := Hid.mk hO
      have HW := Hid.mk hW
      have HM := Hid.mk hm
      have HH := Hid.mk hhk
      rw [hm] at hc hHT
      have hk1 : (k : Int) < (n : Int) := by omega
      have hb1 : 0 ≤ q + (T : Int) := by omega
      have hb2 : q + (T : Int) + (m : Int) ≤ 9223372036854775807 := by omega
      have E1 := Hid.mk e1
      clear hO hW hrow hlook hm hhk e1 e2 hlen hO0
      go_wp2_with fail
      refine (markByteS_ok pa m pc base pz (q + (T : Int)) _ HP.out HM.out hb1 hb2).mono ?_
      rintro e w1 ⟨rfl, o1, g1⟩
      have ON := Hid.mk (HO.out.set (ms := marks (q + (T : Int)) m) (by rw [length_marks, HM.out]) o1 g1)
      have HW1 := Hid.mk (HW.out.step g1 fun j hj => by
        cases pa with
        | none => simp at hj
        | some b => simp at hj; subst hj; exact ⟨(HP.out.lt b rfl).1, HH.out b rfl⟩)
      clear o1 g1 hc
      go_wp2
      go_roundw
      case rel => exact ⟨k + 1, by omega, by go_num, by rw [HT.out, HM.out]; exact congrArg (Value.int IntKind.i64) (by omega), by rw [H3.out, HM.out]; exact ON.out, HW1.out⟩
      case measure => simp [intOf]; omega
    · have hkn : k = n := by omega
      subst hkn
      rw [List.take_of_length_le (by omega)]
      have HO := Hid.mk hO
      clear hO hO0
      go_wp2
      go_ret
      exact ⟨rfl, HO.out, hW⟩

set_option maxHeartbeats 1000000 in
theorem heldLists_ok (a : Option Addr) (n ca : Nat) (q : Int) (zss : List (List Int)) (w : World) (h : RdR w a (markLists q zss)) (hn : zss.length = n) (h0 : 0 ≤ q) (hx : n ≤ 1048576) (ht : q + (total zss : Int) ≤ 4611686018427387904) :
    Calls Try.prog 44 #[.slice a n ca, .int .i64 q] w fun e w' => e = .returned (.int .i64 (q + (total zss : Int))) ∧ Below w.heap.size w w' := by
  go_enter Try.func44, Try.ntmps44
  go_wp2
  go_loopw [1, 5] (fun t i wr => ∃ k : Nat, k ≤ n ∧ i = .int .i64 k ∧ t = .int .i64 (q + (total (zss.take k) : Int)) ∧ Below w.heap.size w wr) (fun _ i _ => n - (intOf i).toNat)
  case atStart => exact ⟨0, Nat.zero_le _, rfl, by simp [total], Below.refl _ _⟩
  case round =>
    obtain ⟨k, hk, rfl, rfl, hB⟩ := hrel
    by_cases hlt : k < n
    · have h := h.kept hB
      have hll := length_markLists q zss
      rcases h with h | ⟨b1, o1, rfl, hca⟩
      · rw [h] at hll; simp at hll; omega
      obtain ⟨c, d, h1, r1, _⟩ := hca k (by omega)
      rw [markLists_at q zss k (by omega)] at h1 r1
      rw [length_marks] at h1
      have hT := Hid.mk (total_take zss k (by omega))
      have hTl := total_le zss (k + 1)
      rw [hT.out] at hTl
      generalize (zss.getD k []).length = m at *
      generalize total (zss.take k) = T at *
      have hk1 : (k : Int) < (n : Int) := by omega
      have hb1 : 0 ≤ q + (T : Int) := by omega
      have hb2 : q + (T : Int) + (m : Int) ≤ 9223372036854775807 := by omega
      have hb3 : 0 ≤ q + (T : Int) + (m : Int) := by omega
      have R1 := Hid.mk r1
      clear hca r1 hll
      go_wp2_with fail
      refine (heldByteS_ok c m d (q + (T : Int)) _ R1.out hb1 hb2).mono ?_
      rintro e w1 ⟨rfl, b1⟩
      go_wp2
      go_roundw
      case rel => exact ⟨k + 1, by omega, by go_num, by rw [hT.out]; exact congrArg (Value.int IntKind.i64) (by omega), hB.trans (b1.mono hB.size)⟩
      case measure => simp [intOf]; omega
    · have hkn : k = n := by omega
      subst hkn
      rw [List.take_of_length_le (by omega)]
      go_wp2
      go_ret
      exact ⟨rfl, hB⟩

set_option maxHeartbeats 1000000 in
theorem eqPartsResult_ok (k : Int) (a b : Option Addr) (n ca cb : Nat) (zss : List (List Int)) (w : World) (ha : RdR w a zss) (hb : RdR w b zss) (hn : zss.length = n) (hx : n ≤ maxLen) (hl : ∀ z ∈ zss, z.length ≤ maxLen) :
    Calls Try.prog 26 #[.agg #[.int .i64 k, .slice a n ca], .agg #[.int .i64 k, .slice b n cb]] w fun e w' => e = .returned (.bool true) ∧ Below w.heap.size w w' := by
  go_enter Try.func26, Try.ntmps26
  go_wp2_with fail
  refine (eqByteSS_ok a b n ca cb zss _ (ha.kept (belowA2 _ _ _)) (hb.kept (belowA2 _ _ _)) hn hx hl).mono ?_
  rintro e w1 ⟨rfl, b1⟩
  go_wp2
  go_ret
  exact ⟨rfl, thenB (belowA2 _ _ _) b1⟩

theorem Within.first {w w1 w2 : World} {lo hi : Nat} (h : Below w.heap.size w w1) (k : Within w1 w2 lo hi) : Within w w2 lo hi :=
  ⟨k.1.trans h.os, k.2.1.trans h.tape, k.2.2.1.trans h.output, Nat.le_trans h.size k.2.2.2.1, fun j hj ho => (k.2.2.2.2 j (Nat.lt_of_lt_of_le hj h.size) ho).trans (h.block j hj)⟩

set_option maxHeartbeats 1000000 in
theorem markPartsResult_ok (k : Int) (c : Option Addr) (n d base hi : Nat) (q : Int) (ps : List Lot) (w : World) (h : OwnT w base c d ps) (hn : ps.length = n) (hhi : ∀ p ∈ ps, ∀ b, p.1 = some b → b.block < hi) (h0 : 0 ≤ q) (hx : n ≤ 1048576) (ht : q + (total (lotsOf ps) : Int) ≤ 4611686018427387904) :
    Calls Try.prog 28 #[.agg #[.int .i64 k, .slice c n d], .int .i64 q] w fun e w' => e = .returned (.int .i64 (q + (total (lotsOf ps) : Int))) ∧ OwnT w' base c d (markTo q ps n) ∧ Within w w' base hi := by
  have HI := Hid.mk hhi
  clear hhi
  go_enter Try.func28, Try.ntmps28
  go_wp2_with fail
  refine (markLots_ok c n d base hi q ps _ (h.kept (belowA _ _)) hn HI.out h0 hx ht).mono ?_
  rintro e w1 ⟨rfl, o1, g1⟩
  have G := Hid.mk (Within.first (belowA _ _) g1)
  have O := Hid.mk o1
  clear g1 o1
  go_wp2
  go_ret
  exact ⟨rfl, O.out, G.out⟩

set_option maxHeartbeats 1000000 in
theorem heldPartsResult_ok (k : Int) (a : Option Addr) (n ca : Nat) (q : Int) (zss : List (List Int)) (w : World) (h : RdR w a (markLists q zss)) (hn : zss.length = n) (h0 : 0 ≤ q) (hx : n ≤ 1048576) (ht : q + (total zss : Int) ≤ 4611686018427387904) :
    Calls Try.prog 29 #[.agg #[.int .i64 k, .slice a n ca], .int .i64 q] w fun e w' => e = .returned (.int .i64 (q + (total zss : Int))) ∧ Below w.heap.size w w' := by
  go_enter Try.func29, Try.ntmps29
  go_wp2_with fail
  refine (heldLists_ok a n ca q zss _ (h.kept (belowA _ _)) hn h0 hx ht).mono ?_
  rintro e w1 ⟨rfl, b1⟩
  have hq : 0 ≤ q + (total zss : Int) := by omega
  go_wp2
  go_ret
  exact ⟨rfl, thenB (belowA _ _) b1⟩

end Go.Proofs.Ytnclfbliimcpgab
