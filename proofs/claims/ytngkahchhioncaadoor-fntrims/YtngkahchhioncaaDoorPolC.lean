/- What is shadowed: the model. -/
import Derived.Test.YtngkahchhioncaaDoorPolF
import Derived.Test.YtngkahchhioncaaDoorSelX
import Derived.Test.YtngkahchhioncaaDoorIntA
import Derived.Test.YtngkahchhioncaaDoorFill
namespace Go.Proofs.YtngkahchhioncaaDoor
open Go.RowKit

/-- The places that are shadowed, as numbers. -/
def shI (xs : List R11) (k : Nat) : List Int := (shL xs k).map fun (i : Nat) => (i : Int)

theorem shI_len (xs : List R11) (k : Nat) : (shI xs k).length ≤ k := by unfold shI; rw [List.length_map]; exact shL_len xs k

theorem shI_yes {xs : List R11} {k : Nat} (h : shAt xs k = true) : shI xs (k + 1) = shI xs k ++ [(k : Int)] := by
  unfold shI; rw [shL_next, if_pos h]; simp

theorem shI_no {xs : List R11} {k : Nat} (h : shAt xs k = false) : shI xs (k + 1) = shI xs k := by
  unfold shI; rw [shL_next, if_neg (by rw [h]; simp)]; simp

set_option maxRecDepth 20000 in
set_option maxHeartbeats 4000000 in
theorem l4Shadowed_ok (a : Option Addr) (n ca : Nat) (xs : List R11) (w : World) (ha : RdRule w a xs) (hn : xs.length = n) (hx : n ≤ 20) :
    Calls Tryd.prog 68 #[.slice a n ca] w fun e w' => ∃ (c d k : Nat), e = .returned (.slice (some ⟨c, 0, none⟩) k d) ∧ (shI xs n).length = k ∧ Own .i64 2 w' w.heap.size (some ⟨c, 0, none⟩) d (shI xs n) ∧ Below w.heap.size w w' := by
  have HA := Hid.mk ha
  clear ha
  go_enter Tryd.func68, Tryd.ntmps68
  have O := Hid.mk (OwnI.lit w [] [] rfl (by decide))
  have B := Hid.mk (belowA w (.cells #[] 2))
  go_wp2
  go_loopw [3, 4] (fun v i wr => ∃ (k c d j : Nat), k ≤ n ∧ i = .int .i64 k ∧ v = .slice (some ⟨c, 0, none⟩) j d ∧ (shI xs k).length = j ∧ Own .i64 2 wr w.heap.size (some ⟨c, 0, none⟩) d (shI xs k) ∧ Below w.heap.size w wr) (fun _ i _ => n - (intOf i).toNat)
  case atStart => exact ⟨0, _, _, 0, Nat.zero_le _, rfl, rfl, rfl, O.out, B.out⟩
  case round =>
    clear O B
    obtain ⟨k, c, d, j, hk, rfl, rfl, hj, O, B⟩ := hrel
    by_cases hlt : k < n
    · obtain ⟨x, hx1⟩ : ∃ x, xs.getD k zRule = x := ⟨_, rfl⟩
      have hk1 : (k : Int) < (n : Int) := by omega
      have hjk := shI_len xs k
      have HO := Hid.mk O
      have HB := Hid.mk B
      have HJ := Hid.mk hj
      have HX := Hid.mk hx1
      have hat : Hid (shAt xs k = shP xs x.s k) := Hid.mk (by unfold shAt; rw [hx1])
      clear O B hx1
      go_wp2
      go_loopw [3, 5] (fun v i wz => ∃ m : Nat, m ≤ k ∧ i = .int .i64 m ∧ v = .slice (some ⟨c, 0, none⟩) j d ∧ shP xs x.s m = false ∧ Below wr.heap.size wr wz) (fun _ i _ => k - (intOf i).toNat)
      case atStart => exact ⟨0, Nat.zero_le _, rfl, rfl, shP_zero _ _, Below.refl _ _⟩
      case round =>
        obtain ⟨m, hm, rfl, rfl, hsh, Bz⟩ := hrel
        by_cases hlt2 : m < k
        · obtain ⟨y, hy1⟩ : ∃ y, xs.getD m zRule = y := ⟨_, rfl⟩
          have hm1 : (m : Int) < (k : Int) := by omega
          have hm2 : (m : Int) < (n : Int) := by omega
          have hnx := shP_next xs x.s m (by omega) hy1
          rw [hsh, Bool.false_or] at hnx
          have CW := Hid.mk (fun w => l3Within_ok x.s y.s w)
          have hb0 := HB.out
          rcases (HA.out.kept hb0).kept Bz with h0 | ⟨b1, o1, rfl, hca⟩
          · rw [h0] at hn; simp at hn; omega
          obtain ⟨p0, p1, p2, p3, p4, p5, p6, p7, p8, p9, p10⟩ := RdRule.cells hca k (by omega) x HX.out
          obtain ⟨q0, q1, q2, q3, q4, q5, q6, q7, q8, q9, q10⟩ := RdRule.cells hca m (by omega) y hy1
          have hb1 := World.block_lt_of_cell? (a := ⟨b1, o1 + k * 11, none⟩) _ p0
          simp only at hb1
          clear hca hy1 p9 p10 q9 q10 hb0 hsh
          generalize inW x.s y.s = cc at *
          replace hnx := Hid.mk hnx
          have B := Bz
          have K : ∀ w' : World, Below wr.heap.size wr w' → (w'.cell? ⟨b1, o1 + k * 11, none⟩ = some (.int .i64 x.s.a) ∧ w'.cell? ⟨b1, o1 + k * 11 + 1, none⟩ = some (.int .i64 x.s.b) ∧ w'.cell? ⟨b1, o1 + k * 11 + 2, none⟩ = some (.int .i64 x.s.c) ∧ w'.cell? ⟨b1, o1 + k * 11 + 3, none⟩ = some (.int .i64 x.s.d) ∧ w'.cell? ⟨b1, o1 + k * 11 + 4, none⟩ = some (.int .i64 x.s.e) ∧ w'.cell? ⟨b1, o1 + k * 11 + 5, none⟩ = some (.int .i64 x.s.f) ∧ w'.cell? ⟨b1, o1 + k * 11 + 6, none⟩ = some (.int .i64 x.s.g) ∧ w'.cell? ⟨b1, o1 + k * 11 + 7, none⟩ = some (.int .i64 x.s.h) ∧ w'.cell? ⟨b1, o1 + k * 11 + 8, none⟩ = some (.int .i64 x.s.r) ∧ w'.cell? ⟨b1, o1 + m * 11, none⟩ = some (.int .i64 y.s.a) ∧ w'.cell? ⟨b1, o1 + m * 11 + 1, none⟩ = some (.int .i64 y.s.b) ∧ w'.cell? ⟨b1, o1 + m * 11 + 2, none⟩ = some (.int .i64 y.s.c) ∧ w'.cell? ⟨b1, o1 + m * 11 + 3, none⟩ = some (.int .i64 y.s.d) ∧ w'.cell? ⟨b1, o1 + m * 11 + 4, none⟩ = some (.int .i64 y.s.e) ∧ w'.cell? ⟨b1, o1 + m * 11 + 5, none⟩ = some (.int .i64 y.s.f) ∧ w'.cell? ⟨b1, o1 + m * 11 + 6, none⟩ = some (.int .i64 y.s.g) ∧ w'.cell? ⟨b1, o1 + m * 11 + 7, none⟩ = some (.int .i64 y.s.h) ∧ w'.cell? ⟨b1, o1 + m * 11 + 8, none⟩ = some (.int .i64 y.s.r)) := fun w' h => ⟨((bcell h).1 _ _ hb1).trans p0, ((bcell h).1 _ _ hb1).trans p1, ((bcell h).1 _ _ hb1).trans p2, ((bcell h).1 _ _ hb1).trans p3, ((bcell h).1 _ _ hb1).trans p4, ((bcell h).1 _ _ hb1).trans p5, ((bcell h).1 _ _ hb1).trans p6, ((bcell h).1 _ _ hb1).trans p7, ((bcell h).1 _ _ hb1).trans p8, ((bcell h).1 _ _ hb1).trans q0, ((bcell h).1 _ _ hb1).trans q1, ((bcell h).1 _ _ hb1).trans q2, ((bcell h).1 _ _ hb1).trans q3, ((bcell h).1 _ _ hb1).trans q4, ((bcell h).1 _ _ hb1).trans q5, ((bcell h).1 _ _ hb1).trans q6, ((bcell h).1 _ _ hb1).trans q7, ((bcell h).1 _ _ hb1).trans q8⟩
          have K := Hid.mk K
          clear p0 p1 p2 p3 p4 p5 p6 p7 p8 q0 q1 q2 q3 q4 q5 q6 q7 q8
          go_wp2_with fail
          refine wp_region_held_drew (S := (fun w' => w'.cell? ⟨b1, o1 + k * 11, none⟩ = some (.int .i64 x.s.a) ∧ w'.cell? ⟨b1, o1 + k * 11 + 1, none⟩ = some (.int .i64 x.s.b) ∧ w'.cell? ⟨b1, o1 + k * 11 + 2, none⟩ = some (.int .i64 x.s.c) ∧ w'.cell? ⟨b1, o1 + k * 11 + 3, none⟩ = some (.int .i64 x.s.d) ∧ w'.cell? ⟨b1, o1 + k * 11 + 4, none⟩ = some (.int .i64 x.s.e) ∧ w'.cell? ⟨b1, o1 + k * 11 + 5, none⟩ = some (.int .i64 x.s.f) ∧ w'.cell? ⟨b1, o1 + k * 11 + 6, none⟩ = some (.int .i64 x.s.g) ∧ w'.cell? ⟨b1, o1 + k * 11 + 7, none⟩ = some (.int .i64 x.s.h) ∧ w'.cell? ⟨b1, o1 + k * 11 + 8, none⟩ = some (.int .i64 x.s.r) ∧ w'.cell? ⟨b1, o1 + m * 11, none⟩ = some (.int .i64 y.s.a) ∧ w'.cell? ⟨b1, o1 + m * 11 + 1, none⟩ = some (.int .i64 y.s.b) ∧ w'.cell? ⟨b1, o1 + m * 11 + 2, none⟩ = some (.int .i64 y.s.c) ∧ w'.cell? ⟨b1, o1 + m * 11 + 3, none⟩ = some (.int .i64 y.s.d) ∧ w'.cell? ⟨b1, o1 + m * 11 + 4, none⟩ = some (.int .i64 y.s.e) ∧ w'.cell? ⟨b1, o1 + m * 11 + 5, none⟩ = some (.int .i64 y.s.f) ∧ w'.cell? ⟨b1, o1 + m * 11 + 6, none⟩ = some (.int .i64 y.s.g) ∧ w'.cell? ⟨b1, o1 + m * 11 + 7, none⟩ = some (.int .i64 y.s.h) ∧ w'.cell? ⟨b1, o1 + m * 11 + 8, none⟩ = some (.int .i64 y.s.r))) (by kernel_rfl) (K.out _ (Below.refl _ _).drew) (fun hHeld => ?_)
          refine wpAnyH_take (i := 0) (oi := _) (v := ?vz1u1) rfl (by kernel_rfl) (by kernel_rfl) (by kernel_rfl) (fun _ _ _ h => h) (Or.inl ⟨by rfl, ?hyz1u1⟩) hHeld ?restz1u1
          case hyz1u1 => (intro w hSw; (try dsimp only at hSw); go_simp; first | done | with_reducible rfl)
          try simp only [Act.put, List.getElem_toArray, List.getElem_cons_zero, List.setIfInBounds_toArray, List.set_cons_zero, List.set_cons_succ]
          refine wpAnyH_take (i := 1) (oi := _) (v := ?vz1u2) rfl (by kernel_rfl) (by kernel_rfl) (by kernel_rfl) (fun _ _ _ h => h) (Or.inl ⟨by rfl, ?hyz1u2⟩) hHeld ?restz1u2
          case hyz1u2 => (intro w hSw; (try dsimp only at hSw); go_simp; first | done | with_reducible rfl)
          try simp only [Act.put, List.getElem_toArray, List.getElem_cons_zero, List.getElem_cons_succ, List.setIfInBounds_toArray, List.set_cons_zero, List.set_cons_succ]
          refine wpAnyH_take (i := 2) (oi := _) (v := ?vz1u3) rfl (by kernel_rfl) (by kernel_rfl) (by kernel_rfl) (fun _ _ _ h => h) (Or.inl ⟨by rfl, ?hyz1u3⟩) hHeld ?restz1u3
          case hyz1u3 => (intro w hSw; (try dsimp only at hSw); go_simp; first | done | with_reducible rfl)
          try simp only [Act.put, List.getElem_toArray, List.getElem_cons_zero, List.getElem_cons_succ, List.setIfInBounds_toArray, List.set_cons_zero, List.set_cons_succ]
          refine wpAnyH_take (i := 3) (oi := _) (v := ?vz1u4) rfl (by kernel_rfl) (by kernel_rfl) (by kernel_rfl) (fun _ _ _ h => h) (Or.inl ⟨by rfl, ?hyz1u4⟩) hHeld ?restz1u4
          case hyz1u4 => (intro w hSw; (try dsimp only at hSw); go_simp; first | done | with_reducible rfl)
          try simp only [Act.put, List.getElem_toArray, List.getElem_cons_zero, List.getElem_cons_succ, List.setIfInBounds_toArray, List.set_cons_zero, List.set_cons_succ]
          refine wpAnyH_take (i := 4) (oi := _) (v := ?vz1u5) rfl (by kernel_rfl) (by kernel_rfl) (by kernel_rfl) (fun _ _ _ h => h) (Or.inl ⟨by rfl, ?hyz1u5⟩) hHeld ?restz1u5
          case hyz1u5 => (intro w hSw; (try dsimp only at hSw); go_simp; first | done | with_reducible rfl)
          try simp only [Act.put, List.getElem_toArray, List.getElem_cons_zero, List.getElem_cons_succ, List.setIfInBounds_toArray, List.set_cons_zero, List.set_cons_succ]
          refine wpAnyH_take (i := 5) (oi := _) (v := ?vz1u6) rfl (by kernel_rfl) (by kernel_rfl) (by kernel_rfl) (fun _ _ _ h => h) (Or.inl ⟨by rfl, ?hyz1u6⟩) hHeld ?restz1u6
          case hyz1u6 => (intro w hSw; (try dsimp only at hSw); go_simp; first | done | with_reducible rfl)
          try simp only [Act.put, List.getElem_toArray, List.getElem_cons_zero, List.getElem_cons_succ, List.setIfInBounds_toArray, List.set_cons_zero, List.set_cons_succ]
          refine wpAnyH_take (i := 6) (oi := _) (v := ?vz1u7) rfl (by kernel_rfl) (by kernel_rfl) (by kernel_rfl) (fun _ _ _ h => h) (Or.inl ⟨by rfl, ?hyz1u7⟩) hHeld ?restz1u7
          case hyz1u7 => (intro w hSw; (try dsimp only at hSw); go_simp; first | done | with_reducible rfl)
          try simp only [Act.put, List.getElem_toArray, List.getElem_cons_zero, List.getElem_cons_succ, List.setIfInBounds_toArray, List.set_cons_zero, List.set_cons_succ]
          refine wpAnyH_take (i := 7) (oi := _) (v := ?vz1u8) rfl (by kernel_rfl) (by kernel_rfl) (by kernel_rfl) (fun _ _ _ h => h) (Or.inl ⟨by rfl, ?hyz1u8⟩) hHeld ?restz1u8
          case hyz1u8 => (intro w hSw; (try dsimp only at hSw); go_simp; first | done | with_reducible rfl)
          try simp only [Act.put, List.getElem_toArray, List.getElem_cons_zero, List.getElem_cons_succ, List.setIfInBounds_toArray, List.set_cons_zero, List.set_cons_succ]
          refine wpAnyH_take (i := 8) (oi := _) (v := ?vz1u9) rfl (by kernel_rfl) (by kernel_rfl) (by kernel_rfl) (fun _ _ _ h => h) (Or.inl ⟨by rfl, ?hyz1u9⟩) hHeld ?restz1u9
          case hyz1u9 => (intro w hSw; (try dsimp only at hSw); go_simp; first | done | with_reducible rfl)
          try simp only [Act.put, List.getElem_toArray, List.getElem_cons_zero, List.getElem_cons_succ, List.setIfInBounds_toArray, List.set_cons_zero, List.set_cons_succ]
          refine wpAnyH_take (i := 9) (oi := _) (v := ?vz1u10) rfl (by kernel_rfl) (by kernel_rfl) (by kernel_rfl) (fun _ _ _ h => h) (Or.inl ⟨by rfl, ?hyz1u10⟩) hHeld ?restz1u10
          case hyz1u10 => (intro w hSw; (try dsimp only at hSw); go_simp; first | done | with_reducible rfl)
          try simp only [Act.put, List.getElem_toArray, List.getElem_cons_zero, List.getElem_cons_succ, List.setIfInBounds_toArray, List.set_cons_zero, List.set_cons_succ]
          refine wpAnyH_ready (rs := [10]) (by kernel_rfl) (by simp) ?_
          refine AllReadyH.cons (o := _) rfl (fun K0 hK0 => ?_) AllReadyH.nil
          go_simp
          go_at_call 112
          refine (CW.out _).mono ?_
          rintro e wz1v11 ⟨rfl, bz1v11⟩
          refine hK0.out _ _ (K.out _ (thenB (Below.refl _ _).drew bz1v11)) (fun hHeld => ?_)
          clear hK0 K0
          try simp only [Act.put, List.getElem_toArray, List.getElem_cons_zero, List.getElem_cons_succ, List.setIfInBounds_toArray, List.set_cons_zero, List.set_cons_succ]
          refine wpAnyH_done (by kernel_rfl) ?_ _
          clear K hHeld
          replace B := thenB B (thenB (Below.refl _ _).drew bz1v11)
          have Sz1 := ((thenB (Below.refl _ _).drew bz1v11)).size
          clear bz1v11
          have Bo := B
          clear Bz Bo
          replace B := Hid.mk B
          cases cc
          · go_wp2
            go_roundw
            case rel => exact ⟨m + 1, by omega, by go_num, rfl, hnx.out, B.out⟩
            case measure => simp [intOf]; omega
          · have hyes := Hid.mk (shI_yes (hat.out.trans (shP_more hnx.out (by omega))))
            have O := HO.out.kept B.out
            have BB := thenB HB.out B.out
            replace O := O.kept (belowA wz1v11 (.cells #[.int .i64 k] 2))
            replace BB := thenB BB (belowA wz1v11 (.cells #[.int .i64 k] 2))
            have TL := BB.size
            replace BB := Hid.mk BB
            go_wp2_with (at_builtin; go_loud (refine wpList_putI _ rfl _ _ rfl w.heap.size (some ⟨c, 0, none⟩) d (shI xs k) j HJ.out rfl O _ 1 (k : Int) rfl (cell_one' _ _ _ 0 _ rfl) (by omega) TL ?_))
            intro c4 d4 w4 O4 hg4 hx4
            obtain ⟨c5, rfl, _, _⟩ := hx4.out
            have B4 := Hid.mk (belowG (c := some ⟨c, 0, none⟩) BB.out hg4 TL (fun b hb => (O.lt b hb).1))
            rw [← hyes.out] at O4
            have hl4 : Hid ((shI xs (k + 1)).length = j + 1) := Hid.mk (by rw [hyes.out, List.length_append, HJ.out]; rfl)
            replace O4 := Hid.mk O4
            clear O hg4 hx4 TL
            go_wp2
            go_roundw
            case rel => exact ⟨k + 1, c5, d4, j + 1, by omega, by go_num, rfl, hl4.out, O4.out, B4.out⟩
            case measure => simp [intOf]; omega
        · obtain rfl : m = k := by omega
          have hno := Hid.mk (shI_no (hat.out.trans hsh))
          have O := Hid.mk (HO.out.kept Bz)
          have BB := Hid.mk (thenB HB.out Bz)
          clear Bz hsh
          go_wp2
          go_roundw
          case rel => exact ⟨m + 1, c, d, j, by omega, by go_num, rfl, by rw [hno.out]; exact HJ.out, by rw [hno.out]; exact O.out, BB.out⟩
          case measure => simp [intOf]; omega
    · obtain rfl : k = n := by omega
      have HO := Hid.mk O
      have HJ := Hid.mk hj
      clear O hj
      go_wp2
      go_ret
      exact ⟨c, d, j, rfl, HJ.out, HO.out, B⟩

theorem ownCells {w : World} {base : Nat} {a : Option Addr} {cap : Nat} {zs : List Int} {B : Nat} (h : Own .i64 2 w base a cap zs) (hB : ∀ b : Addr, a = some b → b.block ≠ B) (o : Nat) (vs : List Value) : Own .i64 2 (w.setCells B o vs) base a cap zs := by
  induction vs generalizing w o with
  | nil => exact h
  | cons v vs ih =>
    refine ih (w := w.setCell ⟨B, o, none⟩ v) (h.grown (row := some B) ⟨rfl, rfl, rfl, by simp [World.setCell], fun k _ hk => Below.heap_setCell _ _ _ _ (fun e => hk (by rw [e]))⟩ fun b hb e => ?_) (o + 1)
    simp only [Option.some.injEq] at e
    exact hB b hb e.symm

theorem build_is0 (k : Int) (w : World) : (Instr.build 50 #[(0, .int .i64 k)]).run Tryd.prog w = .ok (.agg #[.int .i64 k, .slice none 0 0]) w := run_build w 50 _ _ (by kernel_rfl)

theorem build_is1 (a : Option Addr) (n c : Nat) (w : World) : (Instr.build 50 #[(1, .slice a n c)]).run Tryd.prog w = .ok (.agg #[.int .i64 0, .slice a n c]) w := run_build w 50 _ _ (by kernel_rfl)

/-- What 'ShadowedRules' answers beside its code. -/
@[irreducible] def srL (xs : List R11) : List Int := if pyC xs = 0 then shI xs xs.length else []

theorem sr_ways (xs : List R11) : ((pyC xs != 0) = true ∧ pyC xs ≠ 0 ∧ srL xs = []) ∨ (pyC xs = 0 ∧ srL xs = shI xs xs.length) := by
  unfold srL
  by_cases h : pyC xs = 0
  · exact .inr ⟨h, by rw [if_pos h]⟩
  · exact .inl ⟨by simp [h], h, by rw [if_neg h]⟩

set_option maxHeartbeats 4000000 in
theorem specShadowedRules_ok (a : Option Addr) (n ca : Nat) (xs : List R11) (w : World) (ha : RdRule w a xs) (hn : xs.length = n) (hx : n ≤ maxLen) :
    Calls Tryd.prog 37 #[.slice a n ca] w fun e w' => ∃ (c : Option Addr) (d k : Nat), e = .returned (.agg #[.int .i64 (pyC xs), .slice c k d]) ∧ (srL xs).length = k ∧ Own .i64 2 w' w.heap.size c d (srL xs) ∧ Below w.heap.size w w' := by
  have CP := Hid.mk (fun w h => specPolicyFault_ok a n ca xs w h hn hx)
  have q0 := build_is0
  have q1 := build_is1
  rcases sr_ways xs with ⟨h1, h2, e1⟩ | ⟨h1, e1⟩
  · rw [e1]
    clear e1
    generalize pyC xs = kk at *
    go_enter Tryd.func37, Tryd.ntmps37
    have B := Below.refl w.heap.size w
    replace ha := ha.kept (belowA w (.cells #[.int .i64 0, .slice none 0 0] 50))
    replace B := thenB B (belowA w (.cells #[.int .i64 0, .slice none 0 0] 50))
    have VR := V.new w [.int .i64 0, .slice none 0 0] 50
    obtain ⟨s_VR, f_VR, z_VR⟩ := VR.open
    go_wp2_with fail
    refine (CP.out _ ha).mono ?_
    rintro e w1 ⟨rfl, b1⟩
    clear s_VR f_VR z_VR
    have S1 := b1.size
    simp only [World.size_alloc] at S1
    replace VR := VR.kept b1
    replace ha := ha.kept b1
    replace B := thenB B b1
    clear b1
    obtain ⟨s_VR, f_VR, z_VR⟩ := VR.open
    have Bo := B
    clear s_VR f_VR z_VR
    have VF := Hid.mk (VR.filled [.int .i64 kk, .slice none 0 0] rfl)
    have BR := belowCells B (show w.heap.size ≤ w.heap.size by simp) 0 [.int .i64 kk, .slice none 0 0]
    have HT := Hid.mk VR.there
    replace BR := Hid.mk BR
    obtain ⟨s_VR, f_VR, z_VR⟩ := VR.open
    go_wp2_with (refine wpList_store_mid rfl 50 _ _ rfl (w.heap.size) 0 #[.int .i64 kk, .slice none 0 0] rfl rfl HT.out (by kernel_rfl) (by kernel_rfl) ?_)
    refine bodyPost_ret (v := .agg #[.int .i64 kk, .slice none 0 0]) (results_row Tryd.results37 _ _ (w.heap.size) [.int .i64 kk, .slice none 0 0] _ rfl VF.out Tryd.underlying50 rfl (by kernel_rfl)) rfl ⟨none, 0, 0, rfl, rfl, own_none, BR.out⟩
  · rw [e1, h1]
    rw [h1] at CP
    have hx20 : n ≤ 20 := by have := (pyC_zero h1).1; omega
    have CS := Hid.mk (fun w h => l4Shadowed_ok a n ca xs w h hn hx20)
    rw [hn]
    clear e1 h1
    go_enter Tryd.func37, Tryd.ntmps37
    have B := Below.refl w.heap.size w
    replace ha := ha.kept (belowA w (.cells #[.int .i64 0, .slice none 0 0] 50))
    replace B := thenB B (belowA w (.cells #[.int .i64 0, .slice none 0 0] 50))
    have VR := V.new w [.int .i64 0, .slice none 0 0] 50
    obtain ⟨s_VR, f_VR, z_VR⟩ := VR.open
    go_wp2_with fail
    refine (CP.out _ ha).mono ?_
    rintro e w6 ⟨rfl, b6⟩
    clear s_VR f_VR z_VR
    have S6 := b6.size
    simp only [World.size_alloc] at S6
    replace VR := VR.kept b6
    replace ha := ha.kept b6
    replace B := thenB B b6
    clear b6
    obtain ⟨s_VR, f_VR, z_VR⟩ := VR.open
    have Bo := B
    go_wp2_with fail
    refine (CS.out _ ha).mono ?_
    rintro e w7 ⟨c, d, k, rfl, hk, O, b7⟩
    clear s_VR f_VR z_VR
    have S7 := b7.size
    replace VR := VR.kept b7
    replace ha := ha.kept b7
    replace B := thenB B b7
    clear b7
    obtain ⟨s_VR, f_VR, z_VR⟩ := VR.open
    have Bo := B
    have HO := Hid.mk (O.mono (show w.heap.size ≤ _ by omega))
    have HK := Hid.mk hk
    have HC := Hid.mk (O.lt _ rfl).1
    clear O hk
    clear s_VR f_VR z_VR
    have VF := Hid.mk (VR.filled [.int .i64 0, .slice (some ⟨c, 0, none⟩) k d] rfl)
    have BR := belowCells B (show w.heap.size ≤ w.heap.size by simp) 0 [.int .i64 0, .slice (some ⟨c, 0, none⟩) k d]
    have HT := Hid.mk VR.there
    replace BR := Hid.mk BR
    obtain ⟨s_VR, f_VR, z_VR⟩ := VR.open
    go_wp2_with (refine wpList_store_mid rfl 50 _ _ rfl (w.heap.size) 0 #[.int .i64 0, .slice (some ⟨c, 0, none⟩) k d] rfl rfl HT.out (by kernel_rfl) (by kernel_rfl) ?_)
    refine bodyPost_ret (v := .agg #[.int .i64 0, .slice (some ⟨c, 0, none⟩) k d]) (results_row Tryd.results37 _ _ (w.heap.size) [.int .i64 0, .slice (some ⟨c, 0, none⟩) k d] _ rfl VF.out Tryd.underlying50 rfl (by kernel_rfl)) rfl ⟨some ⟨c, 0, none⟩, d, k, rfl, HK.out, ownCells HO.out (by intro b hb; have := HC.out; simp at hb; subst hb; simp at this ⊢; omega) _ _, BR.out⟩

end Go.Proofs.YtngkahchhioncaaDoor
