/- The program's 'AddressText', by contract. -/
import Derived.Test.YtngkahchhioncaaDoorAdrT
namespace Go.Proofs.YtngkahchhioncaaDoor
open Go.RowKit

theorem ptIn_4 {a : Int} (h0 : 0 ≤ a) (h1 : a ≤ 4294967295) : ptIn a 4 := ⟨by omega, by omega, h0, by
  rw [show (4 : Int).toNat = 4 from rfl, show (2 : Int) ^ (8 * 4) = 4294967296 from by decide]; omega⟩

theorem numBytes4_ok (n : Int) (w : World) (h : ptIn n 4) :
    Calls Tryd.prog 156 #[.int .i64 n, .int .i64 4] w fun e w' => ∃ c d, e = .returned (.slice c 4 d) ∧ Own .u8 5 w' w.heap.size c d (putN n 4) ∧ Below w.heap.size w w' := by
  have hv : ptVal n 4 = putN n 4 := if_pos h
  have C := Hid.mk (fun w => implPutNumber_ok n 4 w)
  rw [hv, length_putN] at C
  go_enter Tryd.func156, Tryd.ntmps156
  go_wp2_with fail
  refine (C.out _).mono ?_
  rintro e w1 ⟨c, d, rfl, o1, b1⟩
  have O1 := Hid.mk o1
  clear o1
  have hfd : ∀ wx : World, (Instr.field 185 (.agg #[.int .i64 (ptCode n 4), .slice c 4 d]) 1).run Tryd.prog wx = .ok (.slice c 4 d) wx := fun _ => by kernel_rfl
  go_wp2
  go_ret
  exact ⟨_, _, rfl, O1.out, b1⟩

/-- 'text = strconv.AppendUint(text, uint64(b), 10)' onto the first k parts (and a dot). -/
theorem adr_put (B n m : Nat) (hm : m < 256) (v : Value) (l : List UInt8) (w0 w : World) (hT : Lib.TabBelow Tryd.prog w0.heap.size w0 (Rows.fnExactPolicyTextRow.laid.getD 2 ("", .nil)).1 .u64 Lib.pow10Tab) (hbw : Below w0.heap.size w0 w)
    (hown : w.ownsRow B 5 1 v n (Lib.byteCells l)) (hn : n = l.length) (hB : B ≤ w.heap.size) (hl : n ≤ 100) :
    Calls Tryd.prog 157 #[v, .int .u64 (m : Int), .int .i64 10] w fun e w' => ∃ c d, e = .returned (.slice c (l ++ Lib.decDigits m).length d) ∧ w'.ownsRow B 5 1 (.slice c (l ++ Lib.decDigits m).length d) (l ++ Lib.decDigits m).length (Lib.byteCells (l ++ Lib.decDigits m)) ∧ Below B w w' := by
  refine (pubAppendUint_ok B n m (by omega) v _ w hown hB (by omega) (hT _ hbw)).mono ?_
  rintro e w1 ⟨v1, rfl, o1, b1⟩
  rw [← Lib.byteCells_append, hn, ← List.length_append] at o1
  obtain ⟨c, d, rfl⟩ := ownsRow_shape o1
  exact ⟨c, d, rfl, o1, b1⟩

set_option maxRecDepth 20000 in
set_option maxRecDepth 20000 in
set_option maxHeartbeats 2000000 in
theorem implAddressText_ok (a : Int) (w : World) (htab : Lib.TabIs Tryd.prog w (Rows.fnExactPolicyTextRow.laid.getD 2 ("", .nil)).1 .u64 Lib.pow10Tab) :
    Calls Tryd.prog 148 #[.int .i64 a] w fun e w' => e = .returned (.agg #[.int .i64 (adC a), .string (adV a)]) ∧ Below w.heap.size w w' := by
  have hT := Hid.mk (Lib.tabBelow_of_tabIs htab)
  clear htab
  by_cases h : btw a 0 4294967295 = true
  · have hab := btw_dec _ _ _ h
    have e1 := Hid.mk (show adC a = 0 from if_pos h)
    have e2 := Hid.mk (show adV a = ⟨(adr (putN a 4) 4).toArray⟩ from if_pos h)
    have hbz := Hid.mk (putN_bytes a 4)
    have hlen := Hid.mk (length_putN a 4)
    obtain ⟨i0, hi, hz0, hz1, hz2⟩ := info_parts Tryd.info_u8
    go_enter Tryd.func148, Tryd.ntmps148
    go_wp2_with fail
    refine (isBetween_ok _ _ _ _).mono ?_
    rintro e w1 ⟨rfl, rfl⟩
    rw [h]
    go_wp2_with fail
    refine (numBytes4_ok a _ (ptIn_4 hab.1 hab.2)).mono ?_
    rintro e w2 ⟨c, d, rfl, o2, b2⟩
    have R2 := o2.rd
    clear o2
    generalize putN a 4 = zs at *
    rcases R2 with ha | ⟨g, o, rfl, hca⟩
    · exfalso; have hx := hlen.out; rw [ha] at hx; simp at hx
    have hL := hlen.out
    have HCA := Hid.mk hca
    clear hca
    have B2 := Hid.mk (thenB (belowA w (.cells #[.int .i64 0, .string ByteArray.empty] 76)) b2)
    go_wp2_with fail
    go_loopw [3, 13] (fun v i wr => ∃ (k dd : Nat) (cc : Option Addr), k ≤ 4 ∧ i = .int .i64 (k : Int) ∧ v = .slice cc (adr zs k).length dd ∧ wr.ownsRow w2.heap.size 5 1 v (adr zs k).length (Lib.byteCells (adr zs k)) ∧ Below w2.heap.size w2 wr) (fun _ i _ => 4 - (intOf i).toNat)
    case atStart => exact ⟨0, 0, none, by omega, rfl, rfl, World.ownsRow_nil _ _ _ _, Below.refl _ _⟩
    case round =>
      obtain ⟨k, dd, cc, hk4, rfl, rfl, hown, hb⟩ := hrel
      by_cases hlt : k < 4
      · have hc := HCA.out k (by omega)
        have h1 := (hb.cell (p := ⟨g, o + k, none⟩) (World.block_lt_of_cell? (a := ⟨g, o + k, none⟩) w2 hc)).trans hc
        clear hc
        obtain ⟨m2, hm⟩ : ∃ m : Nat, zs.getD k 0 = (m : Int) := ⟨_, Int.eq_ofNat_of_zero_le (hbz.out.at k).1 |>.choose_spec⟩
        have hmx := (hbz.out.at k).2
        have hEq := Hid.mk (show adr zs (k + 1) = (if k = 0 then [] else adr zs k ++ [46]) ++ Lib.decDigits (zs.getD k 0).toNat from rfl)
        rw [hm] at h1 hmx hEq
        have hl := adr_len zs hbz.out k
        have hki : (k : Int) < 4 := by omega
        have r2 : IntKind.u64.wrap (m2 : Int) = m2 := by rw [IntKind.wrap_u64]; omega
        have HO := Hid.mk hown
        have HB := Hid.mk hb
        have hsz := hb.size
        clear hm hb
        by_cases h0 : k = 0
        · subst h0
          have h1' : wr.cell? ⟨g, o, none⟩ = some (.int .u8 (m2 : Int)) := h1
          have HO' : Hid (wr.ownsRow w2.heap.size 5 1 (.slice cc 0 dd) 0 (Lib.byteCells [])) := HO
          clear hown HO h1 hl hki
          rw [show (adr zs 0).length = 0 from rfl]
          go_wp2_with fail
          refine (adr_put w2.heap.size 0 m2 (by omega) _ [] w _ hT.out (thenB B2.out HB.out) HO'.out rfl hsz (by omega)).mono ?_
          rintro e w4 ⟨c4, d4, rfl, o4, b4⟩
          rw [show [] ++ Lib.decDigits m2 = adr zs 1 from by rw [hEq.out]; simp] at o4 ⊢
          have O4 := Hid.mk o4
          clear o4
          go_wp2_with fail
          go_roundw
          case rel => exact ⟨1, d4, c4, by omega, by go_num, rfl, O4.out, HB.out.trans b4⟩
          case measure => simp [intOf]
        · have hE := hEq.out
          rw [if_neg h0] at hE
          have HE := Hid.mk hE
          clear hE hEq
          have hk0 : 0 < (k : Int) := by omega
          obtain ⟨nl, hnl⟩ : ∃ nl, (adr zs k).length = nl := ⟨_, rfl⟩
          have HN := Hid.mk hnl
          rw [hnl] at hown hl ⊢
          have hl84 : nl ≤ 84 := by omega
          clear hnl HO hl
          go_wp2_with (at_builtin; refine wpList_append_own _ rfl _ _ 22 rfl w2.heap.size 5 i0 (.int .u8 0) 1 1 Tryd.underlying22 hi hz0 hz1 hz2 rfl (by decide) _ _ _ rfl (hown.alloc _) ⟨wr.heap.size, 0, none⟩ 1 1 [.int .u8 46] rfl rfl (cell_one _ _ _) ?_ (by unfold maxLen; omega) (by omega) (by have := HB.out.size; simp; omega) ?_)
          · intro u hu; simp at hu; subst hu; rfl
          intro v' w3 hown' hgrow _
          have hb3 : Below w2.heap.size w2 w3 := (HB.out.alloc hsz _).grown hgrow (by have := hsz; simp; omega) (fun i hi => (hown.lt i hi).1)
          have ho3 : w3.ownsRow w2.heap.size 5 1 v' (nl + 1) (Lib.byteCells (adr zs k ++ [46])) := by
            rw [Lib.byteCells_append]; exact hown'
          have HO3 := Hid.mk ho3
          have HB3 := Hid.mk hb3
          clear ho3 hb3 hown' hown hgrow
          go_wp2_with fail
          refine (adr_put w2.heap.size (nl + 1) m2 (by omega) v' (adr zs k ++ [46]) w _ hT.out (thenB B2.out HB3.out) HO3.out (by rw [List.length_append, HN.out]; rfl) HB3.out.size (by omega)).mono ?_
          rintro e w4 ⟨c4, d4, rfl, o4, b4⟩
          rw [show adr zs k ++ [46] ++ Lib.decDigits m2 = adr zs (k + 1) from by rw [HE.out]; simp] at o4 ⊢
          have O4 := Hid.mk o4
          clear o4
          go_wp2_with fail
          go_roundw
          case rel => exact ⟨k + 1, d4, c4, by omega, by go_num, rfl, O4.out, HB3.out.trans b4⟩
          case measure => simp [intOf]; omega
      · have hkn : k = 4 := by omega
        subst hkn
        have hpos : 0 < (adr zs 4).length := by
          rw [adr_succ zs 3 (by omega)]
          simp only [List.length_append, List.length_cons, List.length_nil]
          omega
        have b5 := thenB b2 hb
        obtain ⟨hc1, hf1⟩ := bcell (W := w.alloc (.cells #[.int .i64 0, .string ByteArray.empty] 76)) (w1 := wr) b5
        have hz1 : w.heap.size + 1 ≤ wr.heap.size := by have := b5.size; simpa using this
        have B5 := Hid.mk b5
        clear b5 hb
        obtain ⟨l, hl⟩ : ∃ l, adr zs 4 = l := ⟨_, rfl⟩
        have HL := Hid.mk hl
        rw [hl] at hown hpos e2 ⊢
        clear hl
        rcases hown.2 with ⟨-, hx⟩ | ⟨g1, cap, cur, hv, -, -, -, -, -, -⟩
        · omega
        simp only [Value.slice.injEq] at hv
        obtain ⟨rfl, -, rfl⟩ := hv
        have hcv := run_convert_bytes_back (P := Tryd.prog) wr 22 9 5 ⟨g1, 0, none⟩ dd l Tryd.underlying22 Tryd.underlying5 Tryd.underlying9 (fun j hj => hown.cells (g := g1) rfl j _ (by simp [Lib.byteCells, hj]))
        clear hown
        go_wp2_with fail
        refine bodyPost_ret (v := .agg #[.int .i64 0, .string ⟨l.toArray⟩]) (by simp [results, Tryd.results148, go_sem, hc1]) rfl ⟨by rw [e1.out, e2.out], ?_⟩
        exact ((thenB (belowA _ _) B5.out).setCell (by simp) _).setCell (by simp) _
  · have hf : btw a 0 4294967295 = false := by simpa using h
    have e1 := Hid.mk (show adC a = 3 from if_neg h)
    have e2 := Hid.mk (show adV a = ByteArray.empty from if_neg h)
    go_enter Tryd.func148, Tryd.ntmps148
    go_wp2_with fail
    refine (isBetween_ok _ _ _ _).mono ?_
    rintro e w1 ⟨rfl, rfl⟩
    rw [hf]
    go_wp2_with fail
    refine bodyPost_ret (v := .agg #[.int .i64 3, .string ByteArray.empty]) (by simp [results, Tryd.results148, go_sem]; rfl) rfl ⟨by rw [e1.out, e2.out], belowA _ _⟩

end Go.Proofs.YtngkahchhioncaaDoor
