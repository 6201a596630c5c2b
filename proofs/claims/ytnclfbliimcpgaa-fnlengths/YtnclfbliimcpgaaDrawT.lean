/- The draw of parts, by its contract. -/
import Derived.Test.YtnclfbliimcpgaaDrawS
import Derived.Test.YtnclfbliimcpgaaCutS
namespace Go.Proofs.Ytnclfbliimcpgaa
open Go.RowKit

theorem l1Chance_ok (B : Nat) (a : Option Addr) (n ca : Nat) (zs : List Int) (t : Nat) (m : Int) (w : World) (hs : Src w B a n ca zs t) (hb : Bytes zs) (hn : zs.length = n) (hx : n ≤ 1048576) (ht : t ≤ 1000000) (hm : m ≤ 9223372036854775807) :
    Calls Try.prog 46 #[.pointer (some ⟨B, 0, none⟩), .int .i64 m] w fun e w' => ∃ v : Bool, e = .returned (.bool v) ∧ Src w' B a n ca zs (t + 1) ∧ w.grownBy w' (some B) := by
  go_enter Try.func46, Try.ntmps46
  go_wp2_with fail
  refine (l1Next_ok B a n ca zs t m _ hs hb hn hx ht hm).mono ?_
  rintro e w1 ⟨v, rfl, _, _, S1, g1⟩
  go_wp2
  go_ret
  exact ⟨_, rfl, S1, g1⟩

theorem OwnT.past {w w' : World} {base B : Nat} {c : Option Addr} {d : Nat} {ps : List Lot} (h : OwnT w base c d ps) (hg : w.grownBy w' (some B)) (hB : B < base) : OwnT w' base c d ps :=
  h.far h.span fun k hk1 hk2 => hg.block k hk2 (by simp; omega)

theorem spanT.up {c : Option Addr} {ps : List Lot} {lo hi hi' : Nat} (h : spanT c ps lo hi) (hh : hi ≤ hi') : spanT c ps lo hi' :=
  ⟨fun b hb => ⟨(h.1 b hb).1, Nat.lt_of_lt_of_le (h.1 b hb).2 hh⟩, fun p hp b hb => ⟨(h.2 p hp b hb).1, Nat.lt_of_lt_of_le (h.2 p hp b hb).2 hh⟩⟩

/-- Rows that a draw makes. -/
def fewBytes (ps : List Lot) : Prop := ∀ p ∈ ps, p.2.2.length ≤ 256 ∧ Bytes p.2.2

theorem fewBytes.add {ps : List Lot} {p : Lot} (h : fewBytes ps) (h1 : p.2.2.length ≤ 256) (h2 : Bytes p.2.2) : fewBytes (ps ++ [p]) := by
  intro q hq
  rcases List.mem_append.1 hq with hq | hq
  · exact h q hq
  · simp at hq; subst hq; exact ⟨h1, h2⟩

theorem fewBytes.put {us bs : List Lot} {p0 p : Lot} (h : fewBytes (us ++ p0 :: bs)) (h1 : p.2.2.length ≤ 256) (h2 : Bytes p.2.2) : fewBytes (us ++ p :: bs) := by
  intro q hq
  rcases List.mem_append.1 hq with hq | hq
  · exact h q (by simp [hq])
  · rcases List.mem_cons.1 hq with rfl | hq
    · exact ⟨h1, h2⟩
    · exact h q (by simp [hq])

theorem split_at (ps : List Lot) (k : Nat) (h : k < ps.length) : ∃ us p0 bs, ps = us ++ p0 :: bs ∧ us.length = k :=
  ⟨ps.take k, ps[k], ps.drop (k + 1), by simp, by simp; omega⟩

set_option maxRecDepth 20000 in
set_option maxHeartbeats 4000000 in
theorem drawPutParts_ok (a : Option Addr) (n ca : Nat) (zs : List Int) (w : World) (ha : Rd .u8 w a zs) (hb : Bytes zs) (hn : zs.length = n) (hx : n ≤ 1048576) :
    Calls Try.prog 24 #[.slice a n ca] w fun e w' => ∃ (c : Option Addr) (d m : Nat) (ps : List Lot), e = .returned (.slice c m d) ∧ ps.length = m ∧ m ≤ 21 ∧ fewBytes ps ∧ OwnT w' w.heap.size c d ps ∧ Below w.heap.size w w' := by
  obtain ⟨j0, hj, j1, j2, j3⟩ := info_parts Try.info_row
  go_enter Try.func24, Try.ntmps24
  go_wp2_with (go_at_call 33; go_in)
  have S0 := (Src.new w a n ca zs 71 ha).kept (belowA _ (.cells #[] 22))
  refine (l1Next_ok w.heap.size a n ca zs 0 5 _ S0 hb hn hx (by omega) (by omega)).mono ?_
  rintro e w1 ⟨v1, rfl, hv1, _, S1, k1⟩
  go_wp2_with fail
  refine (l1Next_ok w.heap.size a n ca zs 1 5 _ S1 hb hn hx (by omega) (by omega)).mono ?_
  rintro e w2 ⟨v2, rfl, hv2, _, S2, k2⟩
  obtain ⟨p1, p2⟩ := hv1 (by omega)
  obtain ⟨p3, p4⟩ := hv2 (by omega)
  have hs2 : w.heap.size < w2.heap.size := S2.1.1
  have S2' := S2.kept (belowA w2 (.cells #[.int .i64 v1, .int .i64 v2, .int .i64 20, .int .i64 21] 2))
  go_wp2_with fail
  refine (l1Pick_ok w.heap.size a n ca zs 2 w2.heap.size 4 4 [v1, v2, 20, 21] _ S2' hb hn hx (by omega) rfl (by omega) (by omega) (fun i hi => ?_) (by omega)).mono ?_
  · exact lit_cells w2 [v1, v2, 20, 21] _ _ (by simp) i hi
  rintro e w3 ⟨x, rfl, hmem, S3, k3⟩
  have hx1 : 0 ≤ x ∧ x ≤ 21 := by
    simp at hmem
    rcases hmem with rfl | rfl | rfl | rfl <;> omega
  obtain ⟨x1, x2⟩ := hx1
  obtain ⟨m, rfl⟩ := Int.eq_ofNat_of_zero_le x1
  have O0 : OwnT ((w.alloc (.cells #[.slice a n ca, .int .i64 0] 71)).alloc (.cells #[] 22)) (w.heap.size + 1) (some ⟨w.heap.size + 1, 0, none⟩) 0 [] := by
    have h := OwnT.made (w.alloc (.cells #[.slice a n ca, .int .i64 0] 71))
    simpa using h
  have O3 := (((O0.past k1 (by omega)).past k2 (by omega)).kept (belowA w2 (.cells #[.int .i64 v1, .int .i64 v2, .int .i64 20, .int .i64 21] 2))).past k3 (by omega)
  have hB3 : Below w.heap.size w w3 := by
    refine ((((belowA2 w _ _).grown k1 (by simp; omega) (by simp)).grown k2 ?_ (by simp)).alloc (by omega) _).grown k3 (by simp; omega) (by simp)
    have := k1.size; simp at this; omega
  clear S0 S1 S2 S2' O0 k1 k2 k3 hmem
  go_wp2
  go_loopw [4, 5] (fun v i wr => ∃ (k d m' t : Nat) (c : Option Addr) (ps : List Lot), i = .int .i64 k ∧ v = .slice c m' d ∧ ps.length = m' ∧ m' + k ≤ 21 ∧ t ≤ 3 + 100 * m' ∧ fewBytes ps ∧ Src wr w.heap.size a n ca zs t ∧ OwnT wr (w.heap.size + 1) c d ps ∧ Below w.heap.size w wr) (fun _ i _ => (intOf i).toNat)
  case atStart => exact ⟨m, 0, 0, 3, _, [], rfl, rfl, rfl, by omega, by omega, fun _ h => (by cases h), S3, O3, hB3⟩
  case round =>
    obtain ⟨k, d, m', t, c, ps, rfl, rfl, hl, hmk, ht, hfew, hS, hO, hB⟩ := hrel
    by_cases hlt : 0 < k
    · have hk1 : (0 : Int) < (k : Int) := by omega
      have hFW := Hid.mk hfew
      clear S3 O3 hB3 hfew
      go_wp2_with fail
      refine (l1Next_ok w.heap.size a n ca zs t 9 _ hS hb hn hx (by omega) (by omega)).mono ?_
      rintro e w4 ⟨v, rfl, hv, _, S4, k4⟩
      obtain ⟨q1, q2⟩ := hv (by omega)
      obtain ⟨z, rfl⟩ := Int.eq_ofNat_of_zero_le q1
      have O4 := hO.past k4 (by omega)
      have hB4 := hB.grown k4 (by have := hB.size; omega) (by simp)
      go_wp2_with fail
      refine (l1Some_ok w.heap.size a n ca zs (t + 1) z _ S4 hb hn hx (by omega) (by omega)).mono ?_
      rintro e w5 ⟨c5, d5, bs, rfl, hl5, hb5, o5, S5, k5⟩
      have sp := O4.span
      have O5 := O4.past k5 (by omega)
      have hB5 := hB4.grown k5 (by have := hB4.size; omega) (by simp)
      have hsz4 : w.heap.size < w4.heap.size := S4.1.1
      have hsz5 := k5.size
      have hok := O5.1
      rw [hl] at hok
      have hk2 : m' + 1 ≤ maxLen := by unfold maxLen; omega
      clear hO hS S4 k4 k5 O4 hB hB4
      go_wp2_with (at_builtin; refine wpList_append_lies _ rfl _ _ 36 rfl (w.heap.size + 1) 22 j0 (.slice none 0 0) 1 24 Try.underlying36 hj j1 j2 j3 rfl (by decide) _ m' (ps.map rowT) rfl (hok.alloc _) ⟨w5.heap.size, 0, none⟩ 1 1 [.slice (some ⟨c5, 0, none⟩) z d5] rfl rfl (cell_one' _ _ _) (by intro u hu; simp at hu; subst hu; rfl) (by omega) hk2 (by omega) (by simp; omega) (w5.heap.size + 1) (by simp) ?_)
      intro g cap w6 hown6 hg6 hat hlt6
      have hrow : rowT (some ⟨c5, 0, none⟩, d5, bs) = .slice (some ⟨c5, 0, none⟩) z d5 := by simp only [rowT, hl5]
      have eb : (Value.slice c m' d).ownBlock = c.map Addr.block := by cases c <;> rfl
      have S6 := (S5.kept (belowA w5 (.cells #[.slice (some ⟨c5, 0, none⟩) z d5] 22))).grownAway hg6 fun i hi => by have := (hok.lt i hi).1; omega
      have hB6 := (hB5.alloc (by omega) (.cells #[.slice (some ⟨c5, 0, none⟩) z d5] 22)).grown hg6 (by simp; omega) fun i hi => by have := (hok.lt i hi).1; omega
      rw [eb] at hat hg6
      rw [← hrow] at hown6
      have ON := Hid.mk (O5.add2 (p := (some ⟨c5, 0, none⟩, d5, bs)) sp o5 (by omega) (by rw [hl]; exact hown6) hg6 hat rfl)
      have hl6 := Hid.mk hl5
      have hbb := Hid.mk hb5
      clear hown6 hg6 hat O5 hok hrow eb hB5 S5 o5 sp hl5 hb5
      go_wp2
      go_roundw
      case rel => exact ⟨k - 1, cap, m' + 1, t + 1 + 3 * z, _, ps ++ [(some ⟨c5, 0, none⟩, d5, bs)], by go_num, rfl, by simp [hl], by omega, by omega, hFW.out.add (by have := hl6.out; simp; omega) hbb.out, S6, ON.out, hB6⟩
      case measure => simp [intOf]; omega
    · have hk0 : k = 0 := by omega
      subst hk0
      clear S3 O3 hB3
      by_cases h0 : m' = 0
      · subst h0
        go_wp2
        go_ret
        exact ⟨_, d, _, _, rfl, hl, by omega, hfew, hO.mono (by omega), hB⟩
      · have h1 : (0 : Int) < (m' : Int) := by omega
        go_wp2_with fail
        refine (l1Chance_ok w.heap.size a n ca zs _ 12 _ hS hb hn hx (by omega) (by omega)).mono ?_
        rintro e wc ⟨v1, rfl, hSc, kc⟩
        have hO := hO.past kc (by omega)
        have hB := hB.grown kc (by have := hB.size; omega) (by simp)
        have hS := hSc
        clear hSc kc
        cases v1
        · by_cases h2 : m' = 1
          · subst h2
            go_wp2
            go_ret
            exact ⟨_, d, _, _, rfl, hl, by omega, hfew, hO.mono (by omega), hB⟩
          · have h3 : (1 : Int) < (m' : Int) := by omega
            go_wp2_with fail
            refine (l1Chance_ok w.heap.size a n ca zs _ 20 _ hS hb hn hx (by omega) (by omega)).mono ?_
            rintro e wc ⟨v2, rfl, hSc, kc⟩
            have hO := hO.past kc (by omega)
            have hB := hB.grown kc (by have := hB.size; omega) (by simp)
            have hS := hSc
            clear hSc kc
            cases v2
            · go_wp2
              go_ret
              exact ⟨_, d, _, _, rfl, hl, by omega, hfew, hO.mono (by omega), hB⟩
            · have hz0 : w.heap.size < _ := hS.1.1
              go_wp2_with fail
              refine (l1Some_ok w.heap.size a n ca zs _ 200 _ hS hb hn hx (by omega) (by omega)).mono ?_
              rintro e wq ⟨c7, d7, bs7, rfl, hl7, hb7, o7, hS', k7⟩
              have sp := hO.span
              have hM : w.heap.size + 1 ≤ _ := hS.1.1
              have hO' := hO.past k7 (by omega)
              have hB' := hB.grown k7 (by have := hB.size; omega) (by simp)
              obtain ⟨us, p0, bs, rfl, hus⟩ := split_at ps 1 (by omega)
              obtain ⟨g, cap, hv, hg1, hg2⟩ := World.ownsRow.form hO'.1 (by omega)
              simp only [Value.slice.injEq] at hv
              obtain ⟨rfl, _, rfl⟩ := hv
              have c1 : wq.frozen? ⟨g, 1, none⟩ = false := hO'.1.frozenAt 1
              have c2 : ∃ v, wq.cell? ⟨g, 1, none⟩ = some v := by
                rw [hO'.1.cellAt 1 (by omega)]
                exact ⟨_, List.getElem?_eq_getElem (by simp at hl ⊢; omega)⟩
              obtain ⟨v8, c2⟩ := c2
              have hrow : rowT (some ⟨c7, 0, none⟩, d7, bs7) = .slice (some ⟨c7, 0, none⟩) 200 d7 := by simp only [rowT, hl7]
              have hO := Hid.mk (hO'.put (p := (some ⟨c7, 0, none⟩, d7, bs7)) sp o7 hM hus hl (by omega))
              rw [hrow] at hO
              have hS := Hid.mk (hS'.grownAway (grown_set _ ⟨g, 1, none⟩ (.slice (some ⟨c7, 0, none⟩) 200 d7)) fun j hj => by simp at hj; omega)
              have hB := Hid.mk (hB'.setCell (p := ⟨g, 1, none⟩) (by simp; omega) (.slice (some ⟨c7, 0, none⟩) 200 d7))
              have hfew := Hid.mk (hfew.put (p := (some ⟨c7, 0, none⟩, d7, bs7)) (by simp; omega) hb7)
              have hl := Hid.mk (show (us ++ (some ⟨c7, 0, none⟩, d7, bs7) :: bs).length = m' by simp at hl ⊢; exact hl)
              clear hO' hS' hB' o7 k7 sp hrow hg1 hg2 hl7 hb7
              go_wp2
              go_ret
              exact ⟨_, _, m', _, rfl, hl.out, by omega, hfew.out, hO.out.mono (by omega), hB.out⟩
        · have hz0 : w.heap.size < _ := hS.1.1
          have hS' := hS.kept (belowA _ (.cells #[.int .i64 255, .int .i64 256, .int .i64 200] 2))
          have hO' := hO.kept (belowA _ (.cells #[.int .i64 255, .int .i64 256, .int .i64 200] 2))
          have hB' := hB.alloc (by omega) (.cells #[.int .i64 255, .int .i64 256, .int .i64 200] 2)
          clear hS hO hB
          go_wp2_with fail
          refine (l1Pick_ok w.heap.size a n ca zs _ _ 3 3 [255, 256, 200] _ hS' hb hn hx (by omega) rfl (by omega) (by omega) (fun i hi => ?_) (by omega)).mono ?_
          · exact lit_cells _ [255, 256, 200] _ _ (by simp) i hi
          rintro e wp ⟨x, rfl, hmem, hS, kp⟩
          have hx1 : 0 ≤ x ∧ x ≤ 256 := by
            simp at hmem
            rcases hmem with rfl | rfl | rfl <;> omega
          obtain ⟨x1, x2⟩ := hx1
          obtain ⟨z, rfl⟩ := Int.eq_ofNat_of_zero_le x1
          have hO := hO'.past kp (by omega)
          have hB := hB'.grown kp (by have := hB'.size; omega) (by simp)
          clear hS' hO' hB' hmem kp hz0
          go_wp2_with fail
          refine (l1Some_ok w.heap.size a n ca zs _ z _ hS hb hn hx (by omega) (by omega)).mono ?_
          rintro e wq ⟨c7, d7, bs7, rfl, hl7, hb7, o7, hS', k7⟩
          have sp := hO.span
          have hM : w.heap.size + 1 ≤ _ := hS.1.1
          have hO' := hO.past k7 (by omega)
          have hB' := hB.grown k7 (by have := hB.size; omega) (by simp)
          obtain ⟨us, p0, bs, rfl, hus⟩ := split_at ps 0 (by omega)
          obtain ⟨g, cap, hv, hg1, hg2⟩ := World.ownsRow.form hO'.1 (by omega)
          simp only [Value.slice.injEq] at hv
          obtain ⟨rfl, _, rfl⟩ := hv
          have c1 : wq.frozen? ⟨g, 0, none⟩ = false := hO'.1.frozenAt 0
          have c2 : ∃ v, wq.cell? ⟨g, 0, none⟩ = some v := by
            rw [hO'.1.cellAt 0 (by omega)]
            exact ⟨_, List.getElem?_eq_getElem (by simp at hl ⊢; omega)⟩
          obtain ⟨v8, c2⟩ := c2
          have hrow : rowT (some ⟨c7, 0, none⟩, d7, bs7) = .slice (some ⟨c7, 0, none⟩) z d7 := by simp only [rowT, hl7]
          have hO := Hid.mk (hO'.put (p := (some ⟨c7, 0, none⟩, d7, bs7)) sp o7 hM hus hl (by omega))
          rw [hrow] at hO
          have hS := Hid.mk (hS'.grownAway (grown_set _ ⟨g, 0, none⟩ (.slice (some ⟨c7, 0, none⟩) z d7)) fun j hj => by simp at hj; omega)
          have hB := Hid.mk (hB'.setCell (p := ⟨g, 0, none⟩) (by simp; omega) (.slice (some ⟨c7, 0, none⟩) z d7))
          have hfew := Hid.mk (hfew.put (p := (some ⟨c7, 0, none⟩, d7, bs7)) (by simp; omega) hb7)
          have hl := Hid.mk (show (us ++ (some ⟨c7, 0, none⟩, d7, bs7) :: bs).length = m' by simp at hl ⊢; exact hl)
          clear hO' hS' hB' o7 k7 sp hrow hg1 hg2 hl7 hb7
          have hO := hO.out
          have hS := hS.out
          have hB := hB.out
          have hfew := hfew.out
          have hl := hl.out
          generalize (us ++ (some ⟨c7, 0, none⟩, d7, bs7) :: bs) = ps at *
          by_cases h2 : m' = 1
          · subst h2
            go_wp2
            go_ret
            exact ⟨_, d, _, _, rfl, hl, by omega, hfew, hO.mono (by omega), hB⟩
          · have h3 : (1 : Int) < (m' : Int) := by omega
            go_wp2_with fail
            refine (l1Chance_ok w.heap.size a n ca zs _ 20 _ hS hb hn hx (by omega) (by omega)).mono ?_
            rintro e wc ⟨v2, rfl, hSc, kc⟩
            have hO := hO.past kc (by omega)
            have hB := hB.grown kc (by have := hB.size; omega) (by simp)
            have hS := hSc
            clear hSc kc
            cases v2
            · go_wp2
              go_ret
              exact ⟨_, d, _, _, rfl, hl, by omega, hfew, hO.mono (by omega), hB⟩
            · have hz0 : w.heap.size < _ := hS.1.1
              go_wp2_with fail
              refine (l1Some_ok w.heap.size a n ca zs _ 200 _ hS hb hn hx (by omega) (by omega)).mono ?_
              rintro e wq ⟨c7, d7, bs7, rfl, hl7, hb7, o7, hS', k7⟩
              have sp := hO.span
              have hM : w.heap.size + 1 ≤ _ := hS.1.1
              have hO' := hO.past k7 (by omega)
              have hB' := hB.grown k7 (by have := hB.size; omega) (by simp)
              obtain ⟨us, p0, bs, rfl, hus⟩ := split_at ps 1 (by omega)
              obtain ⟨g, cap, hv, hg1, hg2⟩ := World.ownsRow.form hO'.1 (by omega)
              simp only [Value.slice.injEq] at hv
              obtain ⟨hv1, _, rfl⟩ := hv
              simp only [Option.some.injEq, Addr.mk.injEq, and_true] at hv1
              have hv2 := hv1.symm
              clear hv1
              subst hv2
              have c1 : wq.frozen? ⟨g, 1, none⟩ = false := hO'.1.frozenAt 1
              have c2 : ∃ v, wq.cell? ⟨g, 1, none⟩ = some v := by
                rw [hO'.1.cellAt 1 (by omega)]
                exact ⟨_, List.getElem?_eq_getElem (by simp at hl ⊢; omega)⟩
              obtain ⟨v8, c2⟩ := c2
              have hrow : rowT (some ⟨c7, 0, none⟩, d7, bs7) = .slice (some ⟨c7, 0, none⟩) 200 d7 := by simp only [rowT, hl7]
              have hO := Hid.mk (hO'.put (p := (some ⟨c7, 0, none⟩, d7, bs7)) sp o7 hM hus hl (by omega))
              rw [hrow] at hO
              have hS := Hid.mk (hS'.grownAway (grown_set _ ⟨g, 1, none⟩ (.slice (some ⟨c7, 0, none⟩) 200 d7)) fun j hj => by simp at hj; omega)
              have hB := Hid.mk (hB'.setCell (p := ⟨g, 1, none⟩) (by simp; omega) (.slice (some ⟨c7, 0, none⟩) 200 d7))
              have hfew := Hid.mk (hfew.put (p := (some ⟨c7, 0, none⟩, d7, bs7)) (by simp; omega) hb7)
              have hl := Hid.mk (show (us ++ (some ⟨c7, 0, none⟩, d7, bs7) :: bs).length = m' by simp at hl ⊢; exact hl)
              clear hO' hS' hB' o7 k7 sp hrow hg1 hg2 hl7 hb7
              go_wp2
              go_ret
              exact ⟨_, _, m', _, rfl, hl.out, by omega, hfew.out, hO.out.mono (by omega), hB.out⟩

end Go.Proofs.Ytnclfbliimcpgaa
