/- The law FnLengths: its walk. -/
import Derived.Test.YtnclfbliimcpgaaDrawU
import Derived.Test.YtnclfbliimcpgaaCutI
import Derived.Deep.RegionHeld3
namespace Go.Proofs.Ytnclfbliimcpgaa
open Go.RowKit

theorem tp_split {zs : List Int} {k : Int} {zss : List (List Int)} (hb : Bytes zs) (h : tpOf zs k zss) : (k = 0 ∧ joinN zss = zs ∧ fits zss) ∨ k = 2 ∨ k = 5 := by
  by_cases h1 : 400 < zs.length
  · exact .inr (.inl (h.1 h1).1)
  · cases hc : cutN 20 zs with
    | none => exact .inr (.inr (h.2.1 (by omega) hc).1)
    | some r =>
      obtain ⟨h2, rfl⟩ := h.2.2 (by omega) r hc
      obtain ⟨h3, h4, h5, h6⟩ := joinN_cutN 20 zs zss hb hc
      exact .inl ⟨h2, h3, h4, h5, by omega⟩

theorem field_parts0 (k v : Value) (w : World) : (Instr.field 38 (.agg #[k, v]) 0).run Try.prog w = .ok k w := by kernel_rfl

theorem field_bytes0 (k v : Value) (w : World) : (Instr.field 27 (.agg #[k, v]) 0).run Try.prog w = .ok k w := by kernel_rfl

theorem tp_join {zss : List (List Int)} (hf : fits zss) : tpOf (joinN zss) 0 zss := by
  have h1 := length_joinN zss
  have h2 := hf.2.2
  have h3 := cutN_joinN 20 zss hf.1
  refine ⟨fun h => by omega, fun _ h => (by rw [h3] at h; cases h), fun _ r h => (by rw [h3] at h; simp at h; exact ⟨rfl, h⟩)⟩

theorem OwnT.at {w : World} {base : Nat} {c : Option Addr} {d : Nat} {ps : List Lot} (h : OwnT w base c d ps) (k : Nat) (hk : k < ps.length) :
    ∃ g x cap, c = some ⟨g, 0, none⟩ ∧ g < w.heap.size ∧ w.cell? ⟨g, k, none⟩ = some (.slice x ((lotsOf ps).getD k []).length cap) ∧ Rd .u8 w x ((lotsOf ps).getD k []) ∧ At0 x := by
  obtain ⟨g, cap, hv, _, hg⟩ := World.ownsRow.form h.1 (by omega)
  simp only [Value.slice.injEq] at hv
  obtain ⟨rfl, _, rfl⟩ := hv
  have e : (lotsOf ps).getD k [] = ps[k].2.2 := by simp [lotsOf, List.getD, hk]
  have ho := (h.2.1 _ (List.getElem_mem hk)).1
  refine ⟨g, ps[k].1, ps[k].2.1, rfl, hg, ?_, ?_, ho.at0⟩
  · rw [World.ownsRow.cellAt h.1 k (by omega), e]
    simp [rowT, hk]
  · rw [e]; exact ho.rd

set_option maxRecDepth 20000 in
set_option maxHeartbeats 8000000 in
theorem xLengths_walk (a : Option Addr) (n ca : Nat) (xs : List Int) (w : World) (hR : Rd .u8 w a xs) (hB : Bytes xs) (hn : xs.length = n) :
    Calls Try.prog 5 #[.slice a n ca] w fun e w' => e = .returned (.bool true) ∧ Below w.heap.size w w' := by
  by_cases hbig : (n : Int) ≤ 1048576
  · go_enter Try.func5, Try.ntmps5
    go_wp2_with (go_at_call 9; go_in)
    refine (drawTakeParts_ok a n ca xs _ hR hB hn (by omega)).mono ?_
    rintro e w1 ⟨c1, m1, d1, zs, rfl, hl1, r1, t1, hb1, hm1, hmd, b1⟩
    obtain ⟨k, zss, hk⟩ := tp_is zs
    have CS := Hid.mk (fun wx h => specTakeParts_ok c1 m1 d1 zs k zss hk wx h hb1 hl1 (by omega) hmd)
    have hsp := tp_split hb1 hk
    have hc1 := Hid.mk (fun wx (h : Rd .u8 wx c1 zs) => convert_rd (d := d1) h t1 hl1)
    go_wp2_with fail
    refine (implTakeParts_ok c1 m1 d1 zs k zss hk _ r1 hb1 hl1 (by omega) hmd).mono ?_
    rintro e w2 ⟨c2, d2, ps2, rfl, hz2, o2, b2⟩
    have B2 := thenB (thenB b1 b2) (belowA w2 (.cells #[.int .i64 k, .slice c2 ps2.length d2] 38))
    have r2 := (r1.kept b2).kept (belowA w2 (.cells #[.int .i64 k, .slice c2 ps2.length d2] 38))
    have R2 := o2.rd.kept (belowA w2 (.cells #[.int .i64 k, .slice c2 ps2.length d2] 38))
    rw [hz2] at R2
    have hl2 : zss.length = ps2.length := by rw [← hz2]; simp [lotsOf]
    have A0 := At.new2 w2 (.int .i64 k) (.slice c2 ps2.length d2) 38
    obtain ⟨N, hN⟩ : ∃ N, ps2.length = N := ⟨_, rfl⟩
    rw [hN] at B2 r2 R2 hl2 A0 ⊢
    have K := Hid.mk (fun w' (h : Below (w2.alloc (.cells #[.int .i64 k, .slice c2 N d2] 38)).heap.size (w2.alloc (.cells #[.int .i64 k, .slice c2 N d2] 38)) w') => (⟨(A0.kept h).two.1, (A0.kept h).two.2.1, hc1.out w' (r2.kept h)⟩ : w'.cell? ⟨w2.heap.size, 0, none⟩ = some (.int .i64 k) ∧ w'.cell? ⟨w2.heap.size, 1, none⟩ = some (.slice c2 N d2) ∧ (convert 22 9 (.slice c1 m1 d1)).run Try.prog w' = .ok (.string (strOfNums zs)) w'))
    have HR2 := Hid.mk r2
    have HRR := Hid.mk R2
    clear hk o2 hz2 r1 r2 R2 A0 hN
    have hfd := fun k v => field_bytes1 k v
    rcases hsp with ⟨rfl, hj, hf⟩ | hsp
    · have CP := Hid.mk (fun wx h => implPutParts_ok c2 N d2 zss 0 zs ⟨fun _ => ⟨rfl, hj.symm⟩, fun h => absurd hf h⟩ wx h hl2 (by have := hf.1; omega) (by have := hf.2.2; omega))
      rw [hl1] at CP
      clear hj hf
      obtain ⟨f1, f2, f3⟩ := K.out _ (Below.refl _ _)
      go_wp2_with fail
      refine wp_region_held_drew (S := (fun w' => w'.cell? ⟨w2.heap.size, 0, none⟩ = some (.int .i64 0) ∧ w'.cell? ⟨w2.heap.size, 1, none⟩ = some (.slice c2 N d2) ∧ (convert 22 9 (.slice c1 m1 d1)).run Try.prog w' = .ok (.string (strOfNums zs)) w')) (by kernel_rfl) (K.out _ (Below.refl _ _).drew) (fun hHeld => ?_)
      refine wpAnyH_take (i := 0) (oi := _) (v := ?v0) rfl (by kernel_rfl) (by kernel_rfl) (by kernel_rfl) (fun _ _ _ h => h) (Or.inl ⟨by rfl, ?hy0⟩) hHeld ?rest0
      case hy0 => (intro w hSw; (try dsimp only at hSw); go_simp; first | done | with_reducible rfl)
      try simp only [Act.put, List.getElem_toArray, List.getElem_cons_zero, List.setIfInBounds_toArray, List.set_cons_zero, List.set_cons_succ]
      refine wpAnyH_take (i := 1) (oi := _) (v := ?v1) rfl (by kernel_rfl) (by kernel_rfl) (by kernel_rfl) (fun _ _ _ h => h) (Or.inl ⟨by rfl, ?hy1⟩) hHeld ?rest1
      case hy1 => (intro w hSw; (try dsimp only at hSw); go_simp; first | done | with_reducible rfl)
      try simp only [Act.put, List.getElem_toArray, List.getElem_cons_zero, List.getElem_cons_succ, List.setIfInBounds_toArray, List.set_cons_zero, List.set_cons_succ]
      refine wpAnyH_take (i := 2) (oi := _) (v := ?v2) rfl (by kernel_rfl) (by kernel_rfl) (by kernel_rfl) (fun _ _ _ h => h) (Or.inl ⟨by rfl, ?hy2⟩) hHeld ?rest2
      case hy2 => (intro w hSw; (try dsimp only at hSw); go_simp; first | done | with_reducible rfl)
      try simp only [Act.put, List.getElem_toArray, List.getElem_cons_zero, List.getElem_cons_succ, List.setIfInBounds_toArray, List.set_cons_zero, List.set_cons_succ]
      refine wpAnyH_take (i := 3) (oi := _) (v := ?v3) rfl (by kernel_rfl) (by kernel_rfl) (by kernel_rfl) (fun _ _ _ h => h) (Or.inl ⟨by rfl, ?hy3⟩) hHeld ?rest3
      case hy3 => (intro w hSw; (try dsimp only at hSw); go_simp; first | done | with_reducible rfl)
      try simp only [Act.put, List.getElem_toArray, List.getElem_cons_zero, List.getElem_cons_succ, List.setIfInBounds_toArray, List.set_cons_zero, List.set_cons_succ]
      refine wpAnyH_take (i := 4) (oi := _) (v := ?v4) rfl (by kernel_rfl) (by kernel_rfl) (by kernel_rfl) (fun _ _ _ h => h) (Or.inl ⟨by rfl, ?hy4⟩) hHeld ?rest4
      case hy4 => (intro w hSw; (try dsimp only at hSw); go_simp; first | done | with_reducible rfl)
      try simp only [Act.put, List.getElem_toArray, List.getElem_cons_zero, List.getElem_cons_succ, List.setIfInBounds_toArray, List.set_cons_zero, List.set_cons_succ]
      refine wpAnyH_take (i := 5) (oi := _) (v := ?v5) rfl (by kernel_rfl) (by kernel_rfl) (by kernel_rfl) (fun _ _ _ h => h) (Or.inl ⟨by rfl, ?hy5⟩) hHeld ?rest5
      case hy5 => (intro w hSw; (try dsimp only at hSw); go_simp; first | done | with_reducible rfl)
      try simp only [Act.put, List.getElem_toArray, List.getElem_cons_zero, List.getElem_cons_succ, List.setIfInBounds_toArray, List.set_cons_zero, List.set_cons_succ]
      refine wpAnyH_take (i := 9) (oi := _) (v := ?v9) rfl (by kernel_rfl) (by kernel_rfl) (by kernel_rfl) (fun _ _ _ h => h) (Or.inl ⟨by rfl, ?hy9⟩) hHeld ?rest9
      case hy9 => (intro w hSw; (try dsimp only at hSw); go_simp; first | done | with_reducible rfl)
      try simp only [Act.put, List.getElem_toArray, List.getElem_cons_zero, List.getElem_cons_succ, List.setIfInBounds_toArray, List.set_cons_zero, List.set_cons_succ]
      refine wpAnyH_take (i := 10) (oi := _) (v := ?v10) rfl (by kernel_rfl) (by kernel_rfl) (by kernel_rfl) (fun _ _ _ h => h) (Or.inl ⟨by rfl, ?hy10⟩) hHeld ?rest10
      case hy10 => (intro w hSw; (try dsimp only at hSw); go_simp; first | done | with_reducible rfl)
      try simp only [Act.put, List.getElem_toArray, List.getElem_cons_zero, List.getElem_cons_succ, List.setIfInBounds_toArray, List.set_cons_zero, List.set_cons_succ]
      refine wpAnyH_ready (rs := [6]) (by kernel_rfl) (by simp) ?_
      refine AllReadyH.cons (o := _) rfl (fun K0 hK0 => ?_) AllReadyH.nil
      go_simp
      go_at_call 22
      refine (CP.out _ (HRR.out.kept (Below.refl _ _).drew)).mono ?_
      rintro e wk ⟨ck, dk, rfl, ok, hbk⟩
      have hcv := convert_rd (d := dk) ok.rd ok.at0 hl1
      go_wp2_with fail
      refine hK0.out _ _ (K.out _ (thenB (Below.refl _ _).drew hbk)) (fun hHeld => ?_)
      clear hK0 K0
      try simp only [Act.put, List.getElem_toArray, List.getElem_cons_zero, List.getElem_cons_succ, List.setIfInBounds_toArray, List.set_cons_zero, List.set_cons_succ]
      refine wpAnyH_take (i := 7) (oi := _) (v := ?v7) rfl (by kernel_rfl) (by kernel_rfl) (by kernel_rfl) (fun _ _ _ h => h) (Or.inl ⟨by rfl, ?hy7⟩) hHeld ?rest7
      case hy7 => (intro w hSw; (try dsimp only at hSw); go_simp; first | done | with_reducible rfl)
      try simp only [Act.put, List.getElem_toArray, List.getElem_cons_zero, List.getElem_cons_succ, List.setIfInBounds_toArray, List.set_cons_zero, List.set_cons_succ]
      refine wpAnyH_ready (rs := [8]) (by kernel_rfl) (by simp) ?_
      refine AllReadyH.cons (o := _) rfl (fun K0 hK0 => ?_) AllReadyH.nil
      go_simp
      refine hK0.out _ _ (hHeld) (fun hHeld => ?_)
      clear hK0 K0
      try simp only [Act.put, List.getElem_toArray, List.getElem_cons_zero, List.getElem_cons_succ, List.setIfInBounds_toArray, List.set_cons_zero, List.set_cons_succ]
      refine wpAnyH_take (i := 11) (oi := _) (v := ?v11) rfl (by kernel_rfl) (by kernel_rfl) (by kernel_rfl) (fun _ _ _ h => h) (Or.inl ⟨by rfl, ?hy11⟩) hHeld ?rest11
      case hy11 => (intro w hSw; (try dsimp only at hSw); go_simp; first | done | with_reducible rfl)
      try simp only [Act.put, List.getElem_toArray, List.getElem_cons_zero, List.getElem_cons_succ, List.setIfInBounds_toArray, List.set_cons_zero, List.set_cons_succ]
      refine wpAnyH_take (i := 12) (oi := _) (v := ?v12) rfl (by kernel_rfl) (by kernel_rfl) (by kernel_rfl) (fun _ _ _ h => h) (Or.inl ⟨by rfl, ?hy12⟩) hHeld ?rest12
      case hy12 => (intro w hSw; (try dsimp only at hSw); go_simp; first | done | with_reducible rfl)
      try simp only [Act.put, List.getElem_toArray, List.getElem_cons_zero, List.getElem_cons_succ, List.setIfInBounds_toArray, List.set_cons_zero, List.set_cons_succ]
      refine wpAnyH_take (i := 13) (oi := _) (v := ?v13) rfl (by kernel_rfl) (by kernel_rfl) (by kernel_rfl) (fun _ _ _ h => h) (Or.inl ⟨by rfl, ?hy13⟩) hHeld ?rest13
      case hy13 => (intro w hSw; (try dsimp only at hSw); go_simp; first | done | with_reducible rfl)
      try simp only [Act.put, List.getElem_toArray, List.getElem_cons_zero, List.getElem_cons_succ, List.setIfInBounds_toArray, List.set_cons_zero, List.set_cons_succ]
      refine wpAnyH_take (i := 14) (oi := _) (v := ?v14) rfl (by kernel_rfl) (by kernel_rfl) (by kernel_rfl) (fun _ _ _ h => h) (Or.inl ⟨by rfl, ?hy14⟩) hHeld ?rest14
      case hy14 => (intro w hSw; (try dsimp only at hSw); go_simp; first | done | with_reducible rfl)
      try simp only [Act.put, List.getElem_toArray, List.getElem_cons_zero, List.getElem_cons_succ, List.setIfInBounds_toArray, List.set_cons_zero, List.set_cons_succ]
      refine wpAnyH_take (i := 15) (oi := _) (v := ?v15) rfl (by kernel_rfl) (by kernel_rfl) (by kernel_rfl) (fun _ _ _ h => h) (Or.inl ⟨by rfl, ?hy15⟩) hHeld ?rest15
      case hy15 => (intro w hSw; (try dsimp only at hSw); go_simp; first | done | with_reducible rfl)
      try simp only [Act.put, List.getElem_toArray, List.getElem_cons_zero, List.getElem_cons_succ, List.setIfInBounds_toArray, List.set_cons_zero, List.set_cons_succ]
      refine wpAnyH_take (i := 16) (oi := _) (v := ?v16) rfl (by kernel_rfl) (by kernel_rfl) (by kernel_rfl) (fun _ _ _ h => h) (Or.inl ⟨by rfl, ?hy16⟩) hHeld ?rest16
      case hy16 => (intro w hSw; (try dsimp only at hSw); go_simp; first | done | with_reducible rfl)
      try simp only [Act.put, List.getElem_toArray, List.getElem_cons_zero, List.getElem_cons_succ, List.setIfInBounds_toArray, List.set_cons_zero, List.set_cons_succ]
      refine wpAnyH_take (i := 17) (oi := _) (v := ?v17) rfl (by kernel_rfl) (by kernel_rfl) (by kernel_rfl) (fun _ _ _ h => h) (Or.inl ⟨by rfl, ?hy17⟩) hHeld ?rest17
      case hy17 => (intro w hSw; (try dsimp only at hSw); go_simp; first | done | with_reducible rfl)
      try simp only [Act.put, List.getElem_toArray, List.getElem_cons_zero, List.getElem_cons_succ, List.setIfInBounds_toArray, List.set_cons_zero, List.set_cons_succ]
      refine wpAnyH_take (i := 18) (oi := _) (v := undef) rfl (by kernel_rfl) (by kernel_rfl) (by kernel_rfl) (fun _ _ _ h => h) (Or.inr ⟨by rfl, rfl⟩) hHeld ?_
      try simp only [Act.put, List.getElem_toArray, List.getElem_cons_zero, List.getElem_cons_succ, List.setIfInBounds_toArray, List.set_cons_zero, List.set_cons_succ]
      refine wpAnyH_take (i := 19) (oi := _) (v := undef) rfl (by kernel_rfl) (by kernel_rfl) (by kernel_rfl) (fun _ _ _ h => h) (Or.inr ⟨by rfl, rfl⟩) hHeld ?_
      try simp only [Act.put, List.getElem_toArray, List.getElem_cons_zero, List.getElem_cons_succ, List.setIfInBounds_toArray, List.set_cons_zero, List.set_cons_succ]
      refine wpAnyH_take (i := 20) (oi := _) (v := undef) rfl (by kernel_rfl) (by kernel_rfl) (by kernel_rfl) (fun _ _ _ h => h) (Or.inr ⟨by rfl, rfl⟩) hHeld ?_
      try simp only [Act.put, List.getElem_toArray, List.getElem_cons_zero, List.getElem_cons_succ, List.setIfInBounds_toArray, List.set_cons_zero, List.set_cons_succ]
      refine wpAnyH_take (i := 21) (oi := _) (v := undef) rfl (by kernel_rfl) (by kernel_rfl) (by kernel_rfl) (fun _ _ _ h => h) (Or.inr ⟨by rfl, rfl⟩) hHeld ?_
      try simp only [Act.put, List.getElem_toArray, List.getElem_cons_zero, List.getElem_cons_succ, List.setIfInBounds_toArray, List.set_cons_zero, List.set_cons_succ]
      refine wpAnyH_take (i := 22) (oi := _) (v := undef) rfl (by kernel_rfl) (by kernel_rfl) (by kernel_rfl) (fun _ _ _ h => h) (Or.inr ⟨by rfl, rfl⟩) hHeld ?_
      try simp only [Act.put, List.getElem_toArray, List.getElem_cons_zero, List.getElem_cons_succ, List.setIfInBounds_toArray, List.set_cons_zero, List.set_cons_succ]
      refine wpAnyH_take (i := 23) (oi := _) (v := undef) rfl (by kernel_rfl) (by kernel_rfl) (by kernel_rfl) (fun _ _ _ h => h) (Or.inr ⟨by rfl, rfl⟩) hHeld ?_
      try simp only [Act.put, List.getElem_toArray, List.getElem_cons_zero, List.getElem_cons_succ, List.setIfInBounds_toArray, List.set_cons_zero, List.set_cons_succ]
      refine wpAnyH_take (i := 24) (oi := _) (v := ?v24) rfl (by kernel_rfl) (by kernel_rfl) (by kernel_rfl) (fun _ _ _ h => h) (Or.inl ⟨by rfl, ?hy24⟩) hHeld ?rest24
      case hy24 => (intro w hSw; (try dsimp only at hSw); go_simp; first | done | with_reducible rfl)
      try simp only [Act.put, List.getElem_toArray, List.getElem_cons_zero, List.getElem_cons_succ, List.setIfInBounds_toArray, List.set_cons_zero, List.set_cons_succ]
      refine wpAnyH_take (i := 25) (oi := _) (v := ?v25) rfl (by kernel_rfl) (by kernel_rfl) (by kernel_rfl) (fun _ _ _ h => h) (Or.inl ⟨by rfl, ?hy25⟩) hHeld ?rest25
      case hy25 => (intro w hSw; (try dsimp only at hSw); go_simp; first | done | with_reducible rfl)
      try simp only [Act.put, List.getElem_toArray, List.getElem_cons_zero, List.getElem_cons_succ, List.setIfInBounds_toArray, List.set_cons_zero, List.set_cons_succ]
      refine wpAnyH_done (by kernel_rfl) ?_ _
      have BX := thenB B2 (thenB (Below.refl _ _).drew hbk)
      clear hbk ok hcv hHeld K HR2 HRR CP CS hc1
      go_wp2_with fail
      refine (drawPutParts_ok a n ca xs _ (hR.kept BX) hB hn (by omega)).mono ?_
      rintro e w5 ⟨c5, d5, m5, ps5, rfl, hl5, hm5, hf5, o5, b5⟩
      have B5 := thenB BX b5
      obtain ⟨k5, bs5, hpp⟩ := pp_is (lotsOf ps5)
      have hlo : (lotsOf ps5).length = m5 := by simp [lotsOf, hl5]
      have htot := few_total hf5
      have hbb := pp_bytes hpp (few_bytes hf5)
      have hsm := pp_small hpp
      go_wp2_with fail
      refine (implPutParts_ok c5 m5 d5 (lotsOf ps5) k5 bs5 hpp _ o5.rd hlo (by omega) (by omega)).mono ?_
      rintro e w6 ⟨c6, d6, rfl, o6, b6⟩
      obtain ⟨m6, hm6⟩ : ∃ m6, bs5.length = m6 := ⟨_, rfl⟩
      rw [hm6] at hsm ⊢
      have B6 := thenB (thenB B5 b6) (belowA w6 (.cells #[.int .i64 k5, .slice c6 m6 d6] 27))
      have A1 := At.new2 w6 (.int .i64 k5) (.slice c6 m6 d6) 27
      have o5 := (o5.kept b6).kept (belowA w6 (.cells #[.int .i64 k5, .slice c6 m6 d6] 27))
      have o6' := o6.kept (belowA w6 (.cells #[.int .i64 k5, .slice c6 m6 d6] 27))
      have hcap := o6.cap
      rw [hm6] at hcap
      clear o6 b5 b6 BX
      by_cases hf : fits (lotsOf ps5)
      · obtain ⟨rfl, hbs⟩ := hpp.1 hf
        have htp := tp_join hf
        rw [← hbs] at htp
        have HTP := Hid.mk htp
        clear hpp hf hbs htp
        go_wp2_with fail
        refine (implTakeParts_ok c6 m6 d6 bs5 0 (lotsOf ps5) HTP.out _ o6'.rd hbb hm6 (by omega) hcap).mono ?_
        rintro e w7 ⟨c7, d7, ps7, rfl, hz7, o7, b7⟩
        have hl7 : ps7.length = m5 := by rw [← hlo, ← hz7]; simp [lotsOf]
        have B7 := thenB (thenB B6 b7) (belowA w7 (.cells #[.int .i64 0, .slice c7 m5 d7] 38))
        have A2 := At.new2 w7 (.int .i64 0) (.slice c7 m5 d7) 38
        have o5 := (o5.kept b7).kept (belowA w7 (.cells #[.int .i64 0, .slice c7 m5 d7] 38))
        have o7' := o7.kept (belowA w7 (.cells #[.int .i64 0, .slice c7 m5 d7] 38))
        rw [hl7]
        clear o7 b7 A1 B6 o6'
        go_wp2
        go_loopw [8] (fun i wr => ∃ k : Nat, k ≤ m5 ∧ i = .int .i64 k ∧ Below (w7.alloc (.cells #[.int .i64 0, .slice c7 m5 d7] 38)).heap.size (w7.alloc (.cells #[.int .i64 0, .slice c7 m5 d7] 38)) wr) (fun i _ => m5 - (intOf i).toNat)
        case atStart => exact ⟨0, Nat.zero_le _, rfl, Below.refl _ _⟩
        case round =>
          obtain ⟨k, hk, rfl, hBr⟩ := hrel
          by_cases hlt : k < m5
          · obtain ⟨g1, x1, p1, rfl, hg1, u1, v1, z1⟩ := o5.at k (by omega)
            obtain ⟨g2, x2, p2, rfl, hg2, u2, v2, z2⟩ := o7'.at k (by omega)
            rw [hz7] at u2 v2
            generalize (lotsOf ps5).getD k [] = zs at *
            obtain ⟨m, hm⟩ : ∃ m, zs.length = m := ⟨_, rfl⟩
            rw [hm] at u1 u2
            have KK := Hid.mk (fun w' (h : Below (w7.alloc (.cells #[.int .i64 0, .slice (some ⟨g2, 0, none⟩) m5 d7] 38)).heap.size (w7.alloc (.cells #[.int .i64 0, .slice (some ⟨g2, 0, none⟩) m5 d7] 38)) w') => (⟨(A2.kept h).two.2.1, (h.cell (p := ⟨g1, k, none⟩) hg1).trans u1, (h.cell (p := ⟨g2, k, none⟩) hg2).trans u2, convert_rd (d := p1) (v1.kept h) z1 hm, convert_rd (d := p2) (v2.kept h) z2 hm⟩ : w'.cell? ⟨w7.heap.size, 1, none⟩ = some (.slice (some ⟨g2, 0, none⟩) m5 d7) ∧ w'.cell? ⟨g1, k, none⟩ = some (.slice x1 m p1) ∧ w'.cell? ⟨g2, k, none⟩ = some (.slice x2 m p2) ∧ (convert 22 9 (.slice x1 m p1)).run Try.prog w' = .ok (.string (strOfNums zs)) w' ∧ (convert 22 9 (.slice x2 m p2)).run Try.prog w' = .ok (.string (strOfNums zs)) w'))
            have hk1 : (k : Int) < (m5 : Int) := by omega
            have hm5i : (m5 : Int) ≤ 21 := by omega
            clear u1 u2 v1 v2 z1 z2 hm o5 o7' A2
            go_wp2
            go_region_held3 (fun w' => w'.cell? ⟨w7.heap.size, 1, none⟩ = some (.slice (some ⟨g2, 0, none⟩) m5 d7) ∧ w'.cell? ⟨g1, k, none⟩ = some (.slice x1 m p1) ∧ w'.cell? ⟨g2, k, none⟩ = some (.slice x2 m p2) ∧ (convert 22 9 (.slice x1 m p1)).run Try.prog w' = .ok (.string (strOfNums zs)) w' ∧ (convert 22 9 (.slice x2 m p2)).run Try.prog w' = .ok (.string (strOfNums zs)) w') (exact KK.out _ hBr.drew) (fail)
            go_wp2
            go_roundw
            case rel => exact ⟨k + 1, by omega, by go_num, hBr.drew⟩
            case measure => simp [intOf]; omega
          · have hkm : k = m5 := by omega
            subst hkm
            go_wp2
            go_ret
            exact ⟨rfl, thenB B7 hBr⟩
      · obtain ⟨rfl, rfl⟩ := hpp.2 hf
        have CQ := Hid.mk (fun wx h => specPutParts_ok c5 m5 d5 (lotsOf ps5) 2 [] hpp wx h hlo (by omega) (by omega))
        have hfd0 := field_bytes0 (.int .i64 2)
        have H5 := Hid.mk o5.rd
        obtain ⟨f7, f8, f9⟩ := A1.two
        have KQ := Hid.mk (fun w' (h : Below (w6.alloc (.cells #[.int .i64 2, .slice c6 m6 d6] 27)).heap.size (w6.alloc (.cells #[.int .i64 2, .slice c6 m6 d6] 27)) w') => (A1.kept h).two.1)
        clear hpp hf o5 o6'
        go_wp2_with fail
        go_region_held3 (fun w' => w'.cell? ⟨w6.heap.size, 0, none⟩ = some (.int .i64 2)) (first | exact KQ.out _ (Below.refl _ _).drew | exact KQ.out _ (thenB (Below.refl _ _).drew hbk) | go_keep) ((go_at_call 25; refine (CQ.out _ (H5.out.kept (Below.refl _ _).drew)).mono ?_; rintro e wk ⟨ck, dk, rfl, ok, hbk⟩))
        have hb9 := thenB B6 (thenB (Below.refl _ _).drew hbk)
        go_wp2
        go_ret
        exact ⟨rfl, hb9⟩
    · have hk0 : (k == 0) = false := by rw [beq_eq_false_iff_ne]; omega
      have hk1 : (k != 0) = true := by rw [bne_iff_ne]; omega
      have hfp := fun v => field_parts0 (.int .i64 k) v
      clear hsp
      obtain ⟨f1, f2, f3⟩ := K.out _ (Below.refl _ _)
      go_wp2_with fail
      refine wp_region_held_drew (S := (fun w' => w'.cell? ⟨w2.heap.size, 0, none⟩ = some (.int .i64 k) ∧ w'.cell? ⟨w2.heap.size, 1, none⟩ = some (.slice c2 N d2) ∧ (convert 22 9 (.slice c1 m1 d1)).run Try.prog w' = .ok (.string (strOfNums zs)) w')) (by kernel_rfl) (K.out _ (Below.refl _ _).drew) (fun hHeld => ?_)
      refine wpAnyH_take (i := 0) (oi := _) (v := ?u0) rfl (by kernel_rfl) (by kernel_rfl) (by kernel_rfl) (fun _ _ _ h => h) (Or.inl ⟨by rfl, ?hz0⟩) hHeld ?post0
      case hz0 => (intro w hSw; (try dsimp only at hSw); go_simp; first | done | with_reducible rfl)
      try simp only [Act.put, List.getElem_toArray, List.getElem_cons_zero, List.setIfInBounds_toArray, List.set_cons_zero, List.set_cons_succ]
      refine wpAnyH_take (i := 1) (oi := _) (v := ?u1) rfl (by kernel_rfl) (by kernel_rfl) (by kernel_rfl) (fun _ _ _ h => h) (Or.inl ⟨by rfl, ?hz1⟩) hHeld ?post1
      case hz1 => (intro w hSw; (try dsimp only at hSw); go_simp; first | done | with_reducible rfl)
      try simp only [Act.put, List.getElem_toArray, List.getElem_cons_zero, List.getElem_cons_succ, List.setIfInBounds_toArray, List.set_cons_zero, List.set_cons_succ]
      refine wpAnyH_take (i := 2) (oi := _) (v := ?u2) rfl (by kernel_rfl) (by kernel_rfl) (by kernel_rfl) (fun _ _ _ h => h) (Or.inl ⟨by rfl, ?hz2⟩) hHeld ?post2
      case hz2 => (intro w hSw; (try dsimp only at hSw); go_simp; first | done | with_reducible rfl)
      try simp only [Act.put, List.getElem_toArray, List.getElem_cons_zero, List.getElem_cons_succ, List.setIfInBounds_toArray, List.set_cons_zero, List.set_cons_succ]
      refine wpAnyH_take (i := 3) (oi := _) (v := ?u3) rfl (by kernel_rfl) (by kernel_rfl) (by kernel_rfl) (fun _ _ _ h => h) (Or.inl ⟨by rfl, ?hz3⟩) hHeld ?post3
      case hz3 => (intro w hSw; (try dsimp only at hSw); go_simp; first | done | with_reducible rfl)
      try simp only [Act.put, List.getElem_toArray, List.getElem_cons_zero, List.getElem_cons_succ, List.setIfInBounds_toArray, List.set_cons_zero, List.set_cons_succ]
      refine wpAnyH_take (i := 4) (oi := _) (v := undef) rfl (by kernel_rfl) (by kernel_rfl) (by kernel_rfl) (fun _ _ _ h => h) (Or.inr ⟨by rfl, rfl⟩) hHeld ?_
      try simp only [Act.put, List.getElem_toArray, List.getElem_cons_zero, List.getElem_cons_succ, List.setIfInBounds_toArray, List.set_cons_zero, List.set_cons_succ]
      refine wpAnyH_take (i := 5) (oi := _) (v := undef) rfl (by kernel_rfl) (by kernel_rfl) (by kernel_rfl) (fun _ _ _ h => h) (Or.inr ⟨by rfl, rfl⟩) hHeld ?_
      try simp only [Act.put, List.getElem_toArray, List.getElem_cons_zero, List.getElem_cons_succ, List.setIfInBounds_toArray, List.set_cons_zero, List.set_cons_succ]
      refine wpAnyH_take (i := 6) (oi := _) (v := undef) rfl (by kernel_rfl) (by kernel_rfl) (by kernel_rfl) (fun _ _ _ h => h) (Or.inr ⟨by rfl, rfl⟩) hHeld ?_
      try simp only [Act.put, List.getElem_toArray, List.getElem_cons_zero, List.getElem_cons_succ, List.setIfInBounds_toArray, List.set_cons_zero, List.set_cons_succ]
      refine wpAnyH_take (i := 7) (oi := _) (v := undef) rfl (by kernel_rfl) (by kernel_rfl) (by kernel_rfl) (fun _ _ _ h => h) (Or.inr ⟨by rfl, rfl⟩) hHeld ?_
      try simp only [Act.put, List.getElem_toArray, List.getElem_cons_zero, List.getElem_cons_succ, List.setIfInBounds_toArray, List.set_cons_zero, List.set_cons_succ]
      refine wpAnyH_take (i := 8) (oi := _) (v := undef) rfl (by kernel_rfl) (by kernel_rfl) (by kernel_rfl) (fun _ _ _ h => h) (Or.inr ⟨by rfl, rfl⟩) hHeld ?_
      try simp only [Act.put, List.getElem_toArray, List.getElem_cons_zero, List.getElem_cons_succ, List.setIfInBounds_toArray, List.set_cons_zero, List.set_cons_succ]
      refine wpAnyH_take (i := 9) (oi := _) (v := undef) rfl (by kernel_rfl) (by kernel_rfl) (by kernel_rfl) (fun _ _ _ h => h) (Or.inr ⟨by rfl, rfl⟩) hHeld ?_
      try simp only [Act.put, List.getElem_toArray, List.getElem_cons_zero, List.getElem_cons_succ, List.setIfInBounds_toArray, List.set_cons_zero, List.set_cons_succ]
      refine wpAnyH_take (i := 10) (oi := _) (v := undef) rfl (by kernel_rfl) (by kernel_rfl) (by kernel_rfl) (fun _ _ _ h => h) (Or.inr ⟨by rfl, rfl⟩) hHeld ?_
      try simp only [Act.put, List.getElem_toArray, List.getElem_cons_zero, List.getElem_cons_succ, List.setIfInBounds_toArray, List.set_cons_zero, List.set_cons_succ]
      refine wpAnyH_take (i := 11) (oi := _) (v := undef) rfl (by kernel_rfl) (by kernel_rfl) (by kernel_rfl) (fun _ _ _ h => h) (Or.inr ⟨by rfl, rfl⟩) hHeld ?_
      try simp only [Act.put, List.getElem_toArray, List.getElem_cons_zero, List.getElem_cons_succ, List.setIfInBounds_toArray, List.set_cons_zero, List.set_cons_succ]
      refine wpAnyH_take (i := 12) (oi := _) (v := ?u12) rfl (by kernel_rfl) (by kernel_rfl) (by kernel_rfl) (fun _ _ _ h => h) (Or.inl ⟨by rfl, ?hz12⟩) hHeld ?post12
      case hz12 => (intro w hSw; (try dsimp only at hSw); go_simp; first | done | with_reducible rfl)
      try simp only [Act.put, List.getElem_toArray, List.getElem_cons_zero, List.getElem_cons_succ, List.setIfInBounds_toArray, List.set_cons_zero, List.set_cons_succ]
      refine wpAnyH_take (i := 13) (oi := _) (v := ?u13) rfl (by kernel_rfl) (by kernel_rfl) (by kernel_rfl) (fun _ _ _ h => h) (Or.inl ⟨by rfl, ?hz13⟩) hHeld ?post13
      case hz13 => (intro w hSw; (try dsimp only at hSw); go_simp; first | done | with_reducible rfl)
      try simp only [Act.put, List.getElem_toArray, List.getElem_cons_zero, List.getElem_cons_succ, List.setIfInBounds_toArray, List.set_cons_zero, List.set_cons_succ]
      refine wpAnyH_take (i := 14) (oi := _) (v := ?u14) rfl (by kernel_rfl) (by kernel_rfl) (by kernel_rfl) (fun _ _ _ h => h) (Or.inl ⟨by rfl, ?hz14⟩) hHeld ?post14
      case hz14 => (intro w hSw; (try dsimp only at hSw); go_simp; first | done | with_reducible rfl)
      try simp only [Act.put, List.getElem_toArray, List.getElem_cons_zero, List.getElem_cons_succ, List.setIfInBounds_toArray, List.set_cons_zero, List.set_cons_succ]
      refine wpAnyH_take (i := 15) (oi := _) (v := ?u15) rfl (by kernel_rfl) (by kernel_rfl) (by kernel_rfl) (fun _ _ _ h => h) (Or.inl ⟨by rfl, ?hz15⟩) hHeld ?post15
      case hz15 => (intro w hSw; (try dsimp only at hSw); go_simp; first | done | with_reducible rfl)
      try simp only [Act.put, List.getElem_toArray, List.getElem_cons_zero, List.getElem_cons_succ, List.setIfInBounds_toArray, List.set_cons_zero, List.set_cons_succ]
      refine wpAnyH_take (i := 16) (oi := _) (v := ?u16) rfl (by kernel_rfl) (by kernel_rfl) (by kernel_rfl) (fun _ _ _ h => h) (Or.inl ⟨by rfl, ?hz16⟩) hHeld ?post16
      case hz16 => (intro w hSw; (try dsimp only at hSw); go_simp; first | done | with_reducible rfl)
      try simp only [Act.put, List.getElem_toArray, List.getElem_cons_zero, List.getElem_cons_succ, List.setIfInBounds_toArray, List.set_cons_zero, List.set_cons_succ]
      refine wpAnyH_take (i := 17) (oi := _) (v := ?u17) rfl (by kernel_rfl) (by kernel_rfl) (by kernel_rfl) (fun _ _ _ h => h) (Or.inl ⟨by rfl, ?hz17⟩) hHeld ?post17
      case hz17 => (intro w hSw; (try dsimp only at hSw); go_simp; first | done | with_reducible rfl)
      try simp only [Act.put, List.getElem_toArray, List.getElem_cons_zero, List.getElem_cons_succ, List.setIfInBounds_toArray, List.set_cons_zero, List.set_cons_succ]
      refine wpAnyH_take (i := 18) (oi := _) (v := ?u18) rfl (by kernel_rfl) (by kernel_rfl) (by kernel_rfl) (fun _ _ _ h => h) (Or.inl ⟨by rfl, ?hz18⟩) hHeld ?post18
      case hz18 => (intro w hSw; (try dsimp only at hSw); go_simp; first | done | with_reducible rfl)
      try simp only [Act.put, List.getElem_toArray, List.getElem_cons_zero, List.getElem_cons_succ, List.setIfInBounds_toArray, List.set_cons_zero, List.set_cons_succ]
      refine wpAnyH_take (i := 21) (oi := _) (v := ?u21) rfl (by kernel_rfl) (by kernel_rfl) (by kernel_rfl) (fun _ _ _ h => h) (Or.inl ⟨by rfl, ?hz21⟩) hHeld ?post21
      case hz21 => (intro w hSw; (try dsimp only at hSw); go_simp; first | done | with_reducible rfl)
      try simp only [Act.put, List.getElem_toArray, List.getElem_cons_zero, List.getElem_cons_succ, List.setIfInBounds_toArray, List.set_cons_zero, List.set_cons_succ]
      refine wpAnyH_take (i := 22) (oi := _) (v := ?u22) rfl (by kernel_rfl) (by kernel_rfl) (by kernel_rfl) (fun _ _ _ h => h) (Or.inl ⟨by rfl, ?hz22⟩) hHeld ?post22
      case hz22 => (intro w hSw; (try dsimp only at hSw); go_simp; first | done | with_reducible rfl)
      try simp only [Act.put, List.getElem_toArray, List.getElem_cons_zero, List.getElem_cons_succ, List.setIfInBounds_toArray, List.set_cons_zero, List.set_cons_succ]
      refine wpAnyH_ready (rs := [19]) (by kernel_rfl) (by simp) ?_
      refine AllReadyH.cons (o := _) rfl (fun K0 hK0 => ?_) AllReadyH.nil
      go_simp
      go_at_call 23
      refine (CS.out _ (HR2.out.kept (Below.refl _ _).drew)).mono ?_
      rintro e wk ⟨ck, dk, psk, rfl, hzk, ok, hbk⟩
      go_wp2_with fail
      refine hK0.out _ _ (K.out _ (thenB (Below.refl _ _).drew hbk)) (fun hHeld => ?_)
      clear hK0 K0
      try simp only [Act.put, List.getElem_toArray, List.getElem_cons_zero, List.getElem_cons_succ, List.setIfInBounds_toArray, List.set_cons_zero, List.set_cons_succ]
      refine wpAnyH_take (i := 20) (oi := _) (v := ?u20) rfl (by kernel_rfl) (by kernel_rfl) (by kernel_rfl) (fun _ _ _ h => h) (Or.inl ⟨by rfl, ?hz20⟩) hHeld ?post20
      case hz20 => (intro w hSw; (try dsimp only at hSw); go_simp; first | done | with_reducible rfl)
      try simp only [Act.put, List.getElem_toArray, List.getElem_cons_zero, List.getElem_cons_succ, List.setIfInBounds_toArray, List.set_cons_zero, List.set_cons_succ]
      refine wpAnyH_take (i := 23) (oi := _) (v := ?u23) rfl (by kernel_rfl) (by kernel_rfl) (by kernel_rfl) (fun _ _ _ h => h) (Or.inl ⟨by rfl, ?hz23⟩) hHeld ?post23
      case hz23 => (intro w hSw; (try dsimp only at hSw); go_simp; first | done | with_reducible rfl)
      try simp only [Act.put, List.getElem_toArray, List.getElem_cons_zero, List.getElem_cons_succ, List.setIfInBounds_toArray, List.set_cons_zero, List.set_cons_succ]
      refine wpAnyH_take (i := 24) (oi := _) (v := ?u24) rfl (by kernel_rfl) (by kernel_rfl) (by kernel_rfl) (fun _ _ _ h => h) (Or.inl ⟨by rfl, ?hz24⟩) hHeld ?post24
      case hz24 => (intro w hSw; (try dsimp only at hSw); go_simp; first | done | with_reducible rfl)
      try simp only [Act.put, List.getElem_toArray, List.getElem_cons_zero, List.getElem_cons_succ, List.setIfInBounds_toArray, List.set_cons_zero, List.set_cons_succ]
      refine wpAnyH_take (i := 25) (oi := _) (v := ?u25) rfl (by kernel_rfl) (by kernel_rfl) (by kernel_rfl) (fun _ _ _ h => h) (Or.inl ⟨by rfl, ?hz25⟩) hHeld ?post25
      case hz25 => (intro w hSw; (try dsimp only at hSw); go_simp; first | done | with_reducible rfl)
      try simp only [Act.put, List.getElem_toArray, List.getElem_cons_zero, List.getElem_cons_succ, List.setIfInBounds_toArray, List.set_cons_zero, List.set_cons_succ]
      refine wpAnyH_done (by kernel_rfl) ?_ _
      have BX := thenB B2 (thenB (Below.refl _ _).drew hbk)
      clear hbk ok hHeld K HR2 HRR CS hc1
      go_wp2_with fail
      refine (drawPutParts_ok a n ca xs _ (hR.kept BX) hB hn (by omega)).mono ?_
      rintro e w5 ⟨c5, d5, m5, ps5, rfl, hl5, hm5, hf5, o5, b5⟩
      have B5 := thenB BX b5
      obtain ⟨k5, bs5, hpp⟩ := pp_is (lotsOf ps5)
      have hlo : (lotsOf ps5).length = m5 := by simp [lotsOf, hl5]
      have htot := few_total hf5
      have hbb := pp_bytes hpp (few_bytes hf5)
      have hsm := pp_small hpp
      go_wp2_with fail
      refine (implPutParts_ok c5 m5 d5 (lotsOf ps5) k5 bs5 hpp _ o5.rd hlo (by omega) (by omega)).mono ?_
      rintro e w6 ⟨c6, d6, rfl, o6, b6⟩
      obtain ⟨m6, hm6⟩ : ∃ m6, bs5.length = m6 := ⟨_, rfl⟩
      rw [hm6] at hsm ⊢
      have B6 := thenB (thenB B5 b6) (belowA w6 (.cells #[.int .i64 k5, .slice c6 m6 d6] 27))
      have A1 := At.new2 w6 (.int .i64 k5) (.slice c6 m6 d6) 27
      have o5 := (o5.kept b6).kept (belowA w6 (.cells #[.int .i64 k5, .slice c6 m6 d6] 27))
      have o6' := o6.kept (belowA w6 (.cells #[.int .i64 k5, .slice c6 m6 d6] 27))
      have hcap := o6.cap
      rw [hm6] at hcap
      clear o6 b5 b6 BX
      by_cases hf : fits (lotsOf ps5)
      · obtain ⟨rfl, hbs⟩ := hpp.1 hf
        have htp := tp_join hf
        rw [← hbs] at htp
        have HTP := Hid.mk htp
        clear hpp hf hbs htp
        go_wp2_with fail
        refine (implTakeParts_ok c6 m6 d6 bs5 0 (lotsOf ps5) HTP.out _ o6'.rd hbb hm6 (by omega) hcap).mono ?_
        rintro e w7 ⟨c7, d7, ps7, rfl, hz7, o7, b7⟩
        have hl7 : ps7.length = m5 := by rw [← hlo, ← hz7]; simp [lotsOf]
        have B7 := thenB (thenB B6 b7) (belowA w7 (.cells #[.int .i64 0, .slice c7 m5 d7] 38))
        have A2 := At.new2 w7 (.int .i64 0) (.slice c7 m5 d7) 38
        have o5 := (o5.kept b7).kept (belowA w7 (.cells #[.int .i64 0, .slice c7 m5 d7] 38))
        have o7' := o7.kept (belowA w7 (.cells #[.int .i64 0, .slice c7 m5 d7] 38))
        rw [hl7]
        clear o7 b7 A1 B6 o6'
        go_wp2
        go_loopw [8] (fun i wr => ∃ k : Nat, k ≤ m5 ∧ i = .int .i64 k ∧ Below (w7.alloc (.cells #[.int .i64 0, .slice c7 m5 d7] 38)).heap.size (w7.alloc (.cells #[.int .i64 0, .slice c7 m5 d7] 38)) wr) (fun i _ => m5 - (intOf i).toNat)
        case atStart => exact ⟨0, Nat.zero_le _, rfl, Below.refl _ _⟩
        case round =>
          obtain ⟨k, hk, rfl, hBr⟩ := hrel
          by_cases hlt : k < m5
          · obtain ⟨g1, x1, p1, rfl, hg1, u1, v1, z1⟩ := o5.at k (by omega)
            obtain ⟨g2, x2, p2, rfl, hg2, u2, v2, z2⟩ := o7'.at k (by omega)
            rw [hz7] at u2 v2
            generalize (lotsOf ps5).getD k [] = zs at *
            obtain ⟨m, hm⟩ : ∃ m, zs.length = m := ⟨_, rfl⟩
            rw [hm] at u1 u2
            have KK := Hid.mk (fun w' (h : Below (w7.alloc (.cells #[.int .i64 0, .slice (some ⟨g2, 0, none⟩) m5 d7] 38)).heap.size (w7.alloc (.cells #[.int .i64 0, .slice (some ⟨g2, 0, none⟩) m5 d7] 38)) w') => (⟨(A2.kept h).two.2.1, (h.cell (p := ⟨g1, k, none⟩) hg1).trans u1, (h.cell (p := ⟨g2, k, none⟩) hg2).trans u2, convert_rd (d := p1) (v1.kept h) z1 hm, convert_rd (d := p2) (v2.kept h) z2 hm⟩ : w'.cell? ⟨w7.heap.size, 1, none⟩ = some (.slice (some ⟨g2, 0, none⟩) m5 d7) ∧ w'.cell? ⟨g1, k, none⟩ = some (.slice x1 m p1) ∧ w'.cell? ⟨g2, k, none⟩ = some (.slice x2 m p2) ∧ (convert 22 9 (.slice x1 m p1)).run Try.prog w' = .ok (.string (strOfNums zs)) w' ∧ (convert 22 9 (.slice x2 m p2)).run Try.prog w' = .ok (.string (strOfNums zs)) w'))
            have hk1 : (k : Int) < (m5 : Int) := by omega
            have hm5i : (m5 : Int) ≤ 21 := by omega
            clear u1 u2 v1 v2 z1 z2 hm o5 o7' A2
            go_wp2
            go_region_held3 (fun w' => w'.cell? ⟨w7.heap.size, 1, none⟩ = some (.slice (some ⟨g2, 0, none⟩) m5 d7) ∧ w'.cell? ⟨g1, k, none⟩ = some (.slice x1 m p1) ∧ w'.cell? ⟨g2, k, none⟩ = some (.slice x2 m p2) ∧ (convert 22 9 (.slice x1 m p1)).run Try.prog w' = .ok (.string (strOfNums zs)) w' ∧ (convert 22 9 (.slice x2 m p2)).run Try.prog w' = .ok (.string (strOfNums zs)) w') (exact KK.out _ hBr.drew) (fail)
            go_wp2
            go_roundw
            case rel => exact ⟨k + 1, by omega, by go_num, hBr.drew⟩
            case measure => simp [intOf]; omega
          · have hkm : k = m5 := by omega
            subst hkm
            go_wp2
            go_ret
            exact ⟨rfl, thenB B7 hBr⟩
      · obtain ⟨rfl, rfl⟩ := hpp.2 hf
        have CQ := Hid.mk (fun wx h => specPutParts_ok c5 m5 d5 (lotsOf ps5) 2 [] hpp wx h hlo (by omega) (by omega))
        have hfd0 := field_bytes0 (.int .i64 2)
        have H5 := Hid.mk o5.rd
        obtain ⟨f7, f8, f9⟩ := A1.two
        have KQ := Hid.mk (fun w' (h : Below (w6.alloc (.cells #[.int .i64 2, .slice c6 m6 d6] 27)).heap.size (w6.alloc (.cells #[.int .i64 2, .slice c6 m6 d6] 27)) w') => (A1.kept h).two.1)
        clear hpp hf o5 o6'
        go_wp2_with fail
        go_region_held3 (fun w' => w'.cell? ⟨w6.heap.size, 0, none⟩ = some (.int .i64 2)) (first | exact KQ.out _ (Below.refl _ _).drew | exact KQ.out _ (thenB (Below.refl _ _).drew hbk) | go_keep) ((go_at_call 25; refine (CQ.out _ (H5.out.kept (Below.refl _ _).drew)).mono ?_; rintro e wk ⟨ck, dk, rfl, ok, hbk⟩))
        have hb9 := thenB B6 (thenB (Below.refl _ _).drew hbk)
        go_wp2
        go_ret
        exact ⟨rfl, hb9⟩
  · go_enter Try.func5, Try.ntmps5
    go_wp2_with (go_at_call 9; go_in)
    go_ret
    exact ⟨rfl, Below.refl _ _⟩

end Go.Proofs.Ytnclfbliimcpgaa
