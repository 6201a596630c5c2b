/- The draw of bytes that may be parts, by its contract. -/
import Derived.Test.YtnclfbliimcpgaaDrawT
import Derived.Test.YtnclfbliimcpgaaPartsF
import Derived.Test.YtnclfbliimcpgaaPartsS
import Derived.Laws.BytesArg
namespace Go.Proofs.Ytnclfbliimcpgaa
open Go.RowKit

theorem field_bytes1 (k v : Value) (w : World) : (Instr.field 27 (.agg #[k, v]) 1).run Try.prog w = .ok v w := by kernel_rfl

/-- An address of a whole cell. -/
def At0 (c : Option Addr) : Prop := ∀ x, c = some x → x.spot = none

theorem Own.at0 {k : IntKind} {e : TypeId} {w : World} {base : Nat} {a : Option Addr} {cap : Nat} {zs : List Int} (h : Own k e w base a cap zs) : At0 a := by
  intro x hx
  subst hx
  rcases h.2 with ⟨h0, _⟩ | ⟨g, cap', cur, hv, _⟩
  · simp at h0
  · simp only [Value.slice.injEq, true_and, Option.some.injEq] at hv
    rw [hv.1]

theorem convert_rd {w : World} {c : Option Addr} {n d : Nat} {ns : List Int} (h : Rd .u8 w c ns) (h0 : At0 c) (hl : ns.length = n) :
    (convert 22 9 (.slice c n d)).run Try.prog w = .ok (.string (strOfNums ns)) w := by
  cases c with
  | none =>
    have : ns = [] := by
      rcases h with h | ⟨b, off, h, _⟩
      · exact h
      · cases h
    subst this
    exact run_convert_bytes_nil w 22 5 Try.underlying22 Try.underlying5 n d 9 Try.underlying9
  | some x =>
    obtain ⟨b, off, spot⟩ := x
    have hs : spot = none := h0 _ rfl
    subst hs
    refine run_convert_bytes_arg w 22 5 Try.underlying22 Try.underlying5 b off n d ns hl (fun i hi => ?_) 9 Try.underlying9
    rcases h with h | ⟨b', off', h, hc⟩
    · subst h; simp at hl; omega
    · simp only [Option.some.injEq, Addr.mk.injEq, and_true] at h
      obtain ⟨rfl, rfl⟩ := h
      exact hc i (by omega)

theorem few_total {ps : List Lot} (h : fewBytes ps) : total (lotsOf ps) ≤ 256 * ps.length := by
  have h1 := total_few (lotsOf ps) 256 fun z hz => by
    simp only [lotsOf, List.mem_map] at hz
    obtain ⟨p, hp, rfl⟩ := hz
    exact (h p hp).1
  simpa [lotsOf] using h1

theorem few_bytes {ps : List Lot} (h : fewBytes ps) : ∀ z ∈ lotsOf ps, Bytes z := fun z hz => by
  simp only [lotsOf, List.mem_map] at hz
  obtain ⟨p, hp, rfl⟩ := hz
  exact (h p hp).2

theorem Bytes.set {zs : List Int} (h : Bytes zs) (i : Nat) (x : Int) (hx : 0 ≤ x ∧ x < 256) : Bytes (zs.set i x) := fun z hz => by
  rcases List.mem_or_eq_of_mem_set hz with h1 | rfl
  · exact h z h1
  · exact hx

theorem Bytes.zeros (n : Nat) : Bytes (List.replicate n 0) := fun z hz => by
  have := List.eq_of_mem_replicate hz
  omega

theorem Rd.prefix {k : IntKind} {w : World} {a : Option Addr} {zs : List Int} (h : Rd k w a zs) (m : Nat) : Rd k w a (zs.take m) := by
  rcases h with rfl | ⟨b, off, rfl, hc⟩
  · exact .inl (by simp)
  · refine .inr ⟨b, off, rfl, fun i hi => ?_⟩
    have hi' : i < m ∧ i < zs.length := by simp at hi; omega
    rw [hc i hi'.2]
    simp [List.getD, hi'.1]

set_option maxRecDepth 20000 in
set_option maxHeartbeats 4000000 in
theorem drawTakeParts_ok (a : Option Addr) (n ca : Nat) (xs : List Int) (w : World) (ha : Rd .u8 w a xs) (hb : Bytes xs) (hn : xs.length = n) (hx : n ≤ 1048576) :
    Calls Try.prog 20 #[.slice a n ca] w fun e w' => ∃ (c : Option Addr) (m d : Nat) (zs : List Int), e = .returned (.slice c m d) ∧ zs.length = m ∧ Rd .u8 w' c zs ∧ At0 c ∧ Bytes zs ∧ m ≤ 401 ∧ m ≤ d ∧ Below w.heap.size w w' := by
  obtain ⟨i0, hi, hz0, hz1, hz2⟩ := info_parts Try.info_u8
  go_enter Try.func20, Try.ntmps20
  go_wp2_with (go_at_call 33; go_in)
  have S0 := Src.new w a n ca xs 71 ha
  have B0 := belowA w (.cells #[.slice a n ca, .int .i64 0] 71)
  refine (drawPutParts_ok a n ca xs _ (ha.kept B0) hb hn hx).mono ?_
  rintro e w1 ⟨c1, d1, m1, ps, rfl, hl1, hm1, hfew, o1, b1⟩
  have S1 := S0.kept b1
  have B1 := thenB B0 b1
  obtain ⟨k, bs, hpp⟩ := pp_is (lotsOf ps)
  have hbs := pp_bytes hpp (few_bytes hfew)
  have hsm := pp_small hpp
  have htot := few_total hfew
  go_wp2_with fail
  refine (specPutParts_ok c1 m1 d1 (lotsOf ps) k bs hpp _ o1.rd (by simp [lotsOf, hl1]) (by omega) (by omega)).mono ?_
  rintro e w2 ⟨c2, d2, rfl, o2, b2⟩
  have S2 := S1.kept b2
  have B2 := thenB B1 b2
  have hcap := o2.cap
  have hsz : w.heap.size < w2.heap.size := S2.1.1
  have hw1 : w.heap.size < w1.heap.size := S1.1.1
  have hfd := field_bytes1 (.int .i64 k) (.slice c2 bs.length d2)
  clear S0 S1 o1 hpp htot hfew B0 B1
  obtain ⟨m, hm⟩ : ∃ m, bs.length = m := ⟨_, rfl⟩
  rw [hm] at hcap hsm hfd
  have hlb := Hid.mk hm
  have hbb := Hid.mk hbs
  have hO := o2
  have hS := S2
  have hB := B2
  have hbase := hw1
  rw [hm]
  clear o2 S2 B2 hw1 hm hbs
  by_cases h0 : m = 0
  · subst h0
    go_wp2_with fail
    refine (l1Chance_ok w.heap.size a n ca xs _ 30 _ hS hb hn hx (by omega) (by omega)).mono ?_
    rintro e wf ⟨v9, rfl, hS9, k9⟩
    have hO9 := Hid.mk (hO.past k9 hbase)
    have hB9 := hB.grown k9 (by have := hB.size; omega) (by simp)
    clear hO hS hB k9
    cases v9
    · go_wp2
      go_ret
      exact ⟨_, 0, d2, (bs).take 0, rfl, by have := hlb.out; rw [List.length_take]; omega, hO9.out.rd.prefix _, hO9.out.at0, fun z hz => hbb.out z (List.mem_of_mem_take hz), by omega, by omega, hB9⟩
    · go_wp2_with fail
      refine (l1Next_ok w.heap.size a n ca xs _ 2 _ hS9 hb hn hx (by omega) (by omega)).mono ?_
      rintro e wg ⟨v, rfl, hv, _, hSg, kg⟩
      obtain ⟨q1, q2⟩ := hv (by omega)
      obtain ⟨q, hq, hq1⟩ : ∃ q : Nat, (400 : Int) + v = (q : Int) ∧ q ≤ 401 := ⟨(400 + v).toNat, by omega, by omega⟩
      have hBg := hB9.grown kg (by have := hB9.size; omega) (by simp)
      clear hO9 hSg kg hB9 hS9
      go_wp2_with (at_make; refine wpList_make_full _ rfl _ _ 22 rfl wg.heap.size 5 i0 (.int .u8 0) 1 Try.underlying22 hi hz0 hz1 .i64 .i64 _ _ q rfl rfl rfl rfl (by rw [hz2]; omega) (by unfold maxLen; omega) (Nat.le_refl _) ?_)
      intro wh hown hgrow
      have hown0 : wh.ownsRow wg.heap.size 5 1 (.slice (some ⟨wg.heap.size, 0, none⟩) q q) q ((List.replicate q 0).map (Value.int .u8)) := by simpa [toList_madeCells_one] using hown
      have HO := Hid.mk (Own.mk hown0 (by simp))
      have hBh := hBg.grown hgrow (by have := hBg.size; omega) (by intro j hj; cases hj)
      clear hown hown0 hgrow
      go_wp2
      go_ret
      exact ⟨_, q, q, List.replicate q 0, rfl, by simp, HO.out.rd, HO.out.at0, Bytes.zeros _, hq1, Nat.le_refl _, hBh⟩
  · have h1 : (0 : Int) < (m : Int) := by omega
    have hd0 : ¬ d2 = 0 := by omega
    go_wp2_with fail
    refine (l1Chance_ok w.heap.size a n ca xs _ 3 _ hS hb hn hx (by omega) (by omega)).mono ?_
    rintro e w3 ⟨v3, rfl, hS3, k3⟩
    have hO := hO.past k3 hbase
    have hB := hB.grown k3 (by have := hB.size; omega) (by simp)
    have hS := hS3
    clear hS3 k3
    cases v3
    · go_wp2_with fail
      refine (l1Chance_ok w.heap.size a n ca xs _ 30 _ hS hb hn hx (by omega) (by omega)).mono ?_
      rintro e wf ⟨v9, rfl, hS9, k9⟩
      have hO9 := Hid.mk (hO.past k9 hbase)
      have hB9 := hB.grown k9 (by have := hB.size; omega) (by simp)
      clear hO hS hB k9
      cases v9
      · go_wp2
        go_ret
        exact ⟨_, m, d2, (bs).take m, rfl, by have := hlb.out; rw [List.length_take]; omega, hO9.out.rd.prefix _, hO9.out.at0, fun z hz => hbb.out z (List.mem_of_mem_take hz), by omega, by omega, hB9⟩
      · go_wp2_with fail
        refine (l1Next_ok w.heap.size a n ca xs _ 2 _ hS9 hb hn hx (by omega) (by omega)).mono ?_
        rintro e wg ⟨v, rfl, hv, _, hSg, kg⟩
        obtain ⟨q1, q2⟩ := hv (by omega)
        obtain ⟨q, hq, hq1⟩ : ∃ q : Nat, (400 : Int) + v = (q : Int) ∧ q ≤ 401 := ⟨(400 + v).toNat, by omega, by omega⟩
        have hBg := hB9.grown kg (by have := hB9.size; omega) (by simp)
        clear hO9 hSg kg hB9 hS9
        go_wp2_with (at_make; refine wpList_make_full _ rfl _ _ 22 rfl wg.heap.size 5 i0 (.int .u8 0) 1 Try.underlying22 hi hz0 hz1 .i64 .i64 _ _ q rfl rfl rfl rfl (by rw [hz2]; omega) (by unfold maxLen; omega) (Nat.le_refl _) ?_)
        intro wh hown hgrow
        have hown0 : wh.ownsRow wg.heap.size 5 1 (.slice (some ⟨wg.heap.size, 0, none⟩) q q) q ((List.replicate q 0).map (Value.int .u8)) := by simpa [toList_madeCells_one] using hown
        have HO := Hid.mk (Own.mk hown0 (by simp))
        have hBh := hBg.grown hgrow (by have := hBg.size; omega) (by intro j hj; cases hj)
        clear hown hown0 hgrow
        go_wp2
        go_ret
        exact ⟨_, q, q, List.replicate q 0, rfl, by simp, HO.out.rd, HO.out.at0, Bytes.zeros _, hq1, Nat.le_refl _, hBh⟩
    · go_wp2_with fail
      refine (l1Next_ok w.heap.size a n ca xs _ (m : Int) _ hS hb hn hx (by omega) (by omega)).mono ?_
      rintro e w4 ⟨v4, rfl, hv4, _, hS4, k4⟩
      obtain ⟨p1, p2⟩ := hv4 (by omega)
      obtain ⟨i, rfl⟩ := Int.eq_ofNat_of_zero_le p1
      have hO := hO.past k4 hbase
      have hB := hB.grown k4 (by have := hB.size; omega) (by simp)
      go_wp2_with fail
      refine (l1Chance_ok w.heap.size a n ca xs _ 2 _ hS4 hb hn hx (by omega) (by omega)).mono ?_
      rintro e w5 ⟨v5, rfl, hS, k5⟩
      have hO := hO.past k5 hbase
      have hB := hB.grown k5 (by have := hB.size; omega) (by simp)
      clear hS4 k4 k5
      cases v5
      · go_wp2_with fail
        refine (l1Chance_ok w.heap.size a n ca xs _ 30 _ hS hb hn hx (by omega) (by omega)).mono ?_
        rintro e wf ⟨v9, rfl, hS9, k9⟩
        have hO9 := Hid.mk (hO.past k9 hbase)
        have hB9 := hB.grown k9 (by have := hB.size; omega) (by simp)
        clear hO hS hB k9
        cases v9
        · go_wp2
          go_ret
          exact ⟨_, i, d2, (bs).take i, rfl, by have := hlb.out; rw [List.length_take]; omega, hO9.out.rd.prefix _, hO9.out.at0, fun z hz => hbb.out z (List.mem_of_mem_take hz), by omega, by omega, hB9⟩
        · go_wp2_with fail
          refine (l1Next_ok w.heap.size a n ca xs _ 2 _ hS9 hb hn hx (by omega) (by omega)).mono ?_
          rintro e wg ⟨v, rfl, hv, _, hSg, kg⟩
          obtain ⟨q1, q2⟩ := hv (by omega)
          obtain ⟨q, hq, hq1⟩ : ∃ q : Nat, (400 : Int) + v = (q : Int) ∧ q ≤ 401 := ⟨(400 + v).toNat, by omega, by omega⟩
          have hBg := hB9.grown kg (by have := hB9.size; omega) (by simp)
          clear hO9 hSg kg hB9 hS9
          go_wp2_with (at_make; refine wpList_make_full _ rfl _ _ 22 rfl wg.heap.size 5 i0 (.int .u8 0) 1 Try.underlying22 hi hz0 hz1 .i64 .i64 _ _ q rfl rfl rfl rfl (by rw [hz2]; omega) (by unfold maxLen; omega) (Nat.le_refl _) ?_)
          intro wh hown hgrow
          have hown0 : wh.ownsRow wg.heap.size 5 1 (.slice (some ⟨wg.heap.size, 0, none⟩) q q) q ((List.replicate q 0).map (Value.int .u8)) := by simpa [toList_madeCells_one] using hown
          have HO := Hid.mk (Own.mk hown0 (by simp))
          have hBh := hBg.grown hgrow (by have := hBg.size; omega) (by intro j hj; cases hj)
          clear hown hown0 hgrow
          go_wp2
          go_ret
          exact ⟨_, q, q, List.replicate q 0, rfl, by simp, HO.out.rd, HO.out.at0, Bytes.zeros _, hq1, Nat.le_refl _, hBh⟩
      · go_wp2_with fail
        refine (l1Next_ok w.heap.size a n ca xs _ 256 _ hS hb hn hx (by omega) (by omega)).mono ?_
        rintro e w6 ⟨v, rfl, hv, _, hS6, k6⟩
        obtain ⟨q1, q2⟩ := hv (by omega)
        have hO6 := hO.past k6 hbase
        have hB6 := hB.grown k6 (by have := hB.size; omega) (by simp)
        have hrow := hO6.row hlb.out
        obtain ⟨g, cap, hv, hg1, hg2⟩ := World.ownsRow.form hrow (by omega)
        simp only [Value.slice.injEq] at hv
        obtain ⟨rfl, _, rfl⟩ := hv
        have c1 : w6.frozen? ⟨g, i, none⟩ = false := hrow.frozenAt i
        have c2 : ∃ u, w6.cell? ⟨g, i, none⟩ = some u := by
          rw [hrow.cellAt i (by omega)]
          exact ⟨_, List.getElem?_eq_getElem (by have := hlb.out; simp; omega)⟩
        obtain ⟨u, c2⟩ := c2
        have hwr : IntKind.u8.wrap v = v := by rw [IntKind.wrap_u8]; omega
        have hs := hrow.stored i (.int .u8 v)
        rw [set_map] at hs
        have hlb := Hid.mk (show (bs.set i v).length = m by simp [hlb.out])
        have hbb := Hid.mk (hbb.out.set i v ⟨q1, q2⟩)
        have hO := Own.mk hs.1 hlb.out
        have hS := hS6.grownAway (grown_set w6 ⟨g, i, none⟩ (.int .u8 v)) fun j hj => by simp at hj; omega
        have hB := hB6.setCell (p := ⟨g, i, none⟩) (by simp; omega) (.int .u8 v)
        clear hs hrow hO6 hS6 hB6 k6
        go_wp2_with fail
        refine (l1Chance_ok w.heap.size a n ca xs _ 30 _ hS hb hn hx (by omega) (by omega)).mono ?_
        rintro e wf ⟨v9, rfl, hS9, k9⟩
        have hO9 := Hid.mk (hO.past k9 hbase)
        have hB9 := hB.grown k9 (by have := hB.size; omega) (by simp)
        clear hO hS hB k9
        cases v9
        · go_wp2
          go_ret
          exact ⟨_, m, d2, (bs.set i v).take m, rfl, by have := hlb.out; rw [List.length_take]; omega, hO9.out.rd.prefix _, hO9.out.at0, fun z hz => hbb.out z (List.mem_of_mem_take hz), by omega, by omega, hB9⟩
        · go_wp2_with fail
          refine (l1Next_ok w.heap.size a n ca xs _ 2 _ hS9 hb hn hx (by omega) (by omega)).mono ?_
          rintro e wg ⟨v, rfl, hv, _, hSg, kg⟩
          obtain ⟨q1, q2⟩ := hv (by omega)
          obtain ⟨q, hq, hq1⟩ : ∃ q : Nat, (400 : Int) + v = (q : Int) ∧ q ≤ 401 := ⟨(400 + v).toNat, by omega, by omega⟩
          have hBg := hB9.grown kg (by have := hB9.size; omega) (by simp)
          clear hO9 hSg kg hB9 hS9
          go_wp2_with (at_make; refine wpList_make_full _ rfl _ _ 22 rfl wg.heap.size 5 i0 (.int .u8 0) 1 Try.underlying22 hi hz0 hz1 .i64 .i64 _ _ q rfl rfl rfl rfl (by rw [hz2]; omega) (by unfold maxLen; omega) (Nat.le_refl _) ?_)
          intro wh hown hgrow
          have hown0 : wh.ownsRow wg.heap.size 5 1 (.slice (some ⟨wg.heap.size, 0, none⟩) q q) q ((List.replicate q 0).map (Value.int .u8)) := by simpa [toList_madeCells_one] using hown
          have HO := Hid.mk (Own.mk hown0 (by simp))
          have hBh := hBg.grown hgrow (by have := hBg.size; omega) (by intro j hj; cases hj)
          clear hown hown0 hgrow
          go_wp2
          go_ret
          exact ⟨_, q, q, List.replicate q 0, rfl, by simp, HO.out.rd, HO.out.at0, Bytes.zeros _, hq1, Nat.le_refl _, hBh⟩

end Go.Proofs.Ytnclfbliimcpgaa
