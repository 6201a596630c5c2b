/- The law FnTrims: its walk. -/
import Derived.Test.YtngkahchhioncaaDoorMb
import Derived.Test.YtngkahchhioncaaDoorMc
import Derived.Deep.DeepCutAuto
namespace Go.Proofs.YtngkahchhioncaaDoor
open Go.RowKit

theorem nilCap {w : World} {a : Option Addr} {len cap : Nat} {zs : List Int}
    (h : (a = none ∧ len = 0 ∧ cap = 0 ∧ zs = []) ∨ ∃ x : Addr, a = some x ∧ len ≤ cap ∧ cap ≤ maxLen ∧ zs.length = cap ∧ (∀ i, i < zs.length → w.cell? (x.add i) = some (.int .u8 (zs.getD i 0))) ∧ ∀ n ∈ zs, (Lit.int .u8 n).wf = true) : a = none → cap = 0 := by
  intro ha
  rcases h with ⟨_, _, h3, _⟩ | ⟨x, h1, _⟩
  · exact h3
  · rw [h1] at ha; cases ha

theorem bytes3 {xs : List Int} (h : Bytes xs) : Bytes (3 :: xs) := by
  intro z hz
  rcases List.mem_cons.1 hz with h1 | h1
  · subst h1; omega
  · exact h z h1

theorem fieldPkt (k f t r l u v s : Value) (w : World) : (Instr.field 54 (.agg #[k, f, t, r, l, u, v, s]) 1).run Tryd.prog w = .ok (.agg #[f, t, r, l, u, v, s]) w := by kernel_rfl

theorem fr_pair {xs : List R11} (h : pyC xs = 0) (f t r l u v : Int) (m : Nat) : ∃ (C A1 A2 : Int) (R : R11),
    frV xs f t r l u v m = .agg #[.int .i64 C, .int .i64 A1, .int .i64 R.s.a, .int .i64 R.s.b, .int .i64 R.s.c, .int .i64 R.s.d, .int .i64 R.s.e, .int .i64 R.s.f, .int .i64 R.s.g, .int .i64 R.s.h, .int .i64 R.s.r, .int .i64 R.p, .int .i64 R.q] ∧ frV (trL xs xs.length) f t r l u v m = .agg #[.int .i64 C, .int .i64 A2, .int .i64 R.s.a, .int .i64 R.s.b, .int .i64 R.s.c, .int .i64 R.s.d, .int .i64 R.s.e, .int .i64 R.s.f, .int .i64 R.s.g, .int .i64 R.s.h, .int .i64 R.s.r, .int .i64 R.p, .int .i64 R.q] := by
  obtain ⟨h1, h2⟩ := tr_first h f t r l u v m
  refine ⟨frC xs f t r l u v m, frA xs f t r l u v m, frA (trL xs xs.length) f t r l u v m, frR xs f t r l u v m, frV_is _ _ _ _ _ _ _ _, ?_⟩
  rw [frV_is, h1, h2]

theorem trims_len {xs : List R11} (h : pyC xs = 0) : (tpL xs).length + (srL xs).length = xs.length ∧ tpL xs = trL xs xs.length := by
  have h1 : tpL xs = trL xs xs.length := by
    rcases tp_ways xs with ⟨_, h2, _⟩ | ⟨_, h2⟩
    · exact absurd h h2
    · exact h2
  have h3 : srL xs = shI xs xs.length := by
    rcases sr_ways xs with ⟨_, h2, _⟩ | ⟨_, h2⟩
    · exact absurd h h2
    · exact h2
  refine ⟨?_, h1⟩
  rw [h1, h3]
  unfold shI
  rw [List.length_map]
  exact trL_len xs xs.length

set_option maxRecDepth 20000 in
set_option maxHeartbeats 16000000 in
theorem xTrims_walk (a : Option Addr) (n ca : Nat) (zs : List Int) (w : World) (ha : Rd .u8 w a zs) (hb : Bytes zs) (hn : zs.length = n) (hcn : a = none → ca = 0) :
    Calls Tryd.prog 4 #[.slice a n ca] w fun e w' => e = .returned (.bool true) ∧ Below w.heap.size w w' := by
  by_cases hbig : 1048576 < n
  · have h1 : (1048576 : Int) < (n : Int) := by omega
    go_enter Tryd.func4, Tryd.ntmps4
    go_wp2_with (first | (go_at_call 13; go_in) | fail)
    go_ret
    exact ⟨rfl, Below.refl _ _⟩
  have h1 : ¬ (1048576 : Int) < (n : Int) := by omega
  have CD := Hid.mk (drawSwapRules_ok a n ca zs w ha hb hn (by omega))
  have hn6 : n ≤ 1048576 := by omega
  have HZ := Hid.mk ha
  clear ha hbig
  have qc := fieldRs0
  have qd := fieldRs1
  have qe := fieldIs1
  have q8 := fieldPkt
  go_enter Tryd.func4, Tryd.ntmps4
  go_wp2_with (first | (go_at_call 13; go_in) | fail)
  refine CD.out.mono ?_
  rintro e wA ⟨c, d, m, xs, v, rfl, hm, hlen, RX, hv, B0⟩
  have hxm : m ≤ maxLen := by unfold maxLen; omega
  have hv2 : -9223372036854775808 ≤ v ∧ v ≤ 9223372036854775807 := by omega
  obtain ⟨KT, hKT⟩ : ∃ KT, (tpL xs).length = KT := ⟨_, rfl⟩
  obtain ⟨KS, hKS⟩ : ∃ KS, (swL xs v).length = KS := ⟨_, rfl⟩
  obtain ⟨KH, hKH⟩ : ∃ KH, (srL xs).length = KH := ⟨_, rfl⟩
  have CT := Hid.mk (fun w h => implTrim_fix (some ⟨c, 0, none⟩) m d xs KT w h hlen hxm hKT)
  have CTs := Hid.mk (fun w h => specTrim_fix (some ⟨c, 0, none⟩) m d xs KT w h hlen hxm hKT)
  have CW := Hid.mk (fun w h => implSwap_fix (some ⟨c, 0, none⟩) m d xs v KS w h hlen hxm hv2 hKS)
  have CWs := Hid.mk (fun w h => specSwap_fix (some ⟨c, 0, none⟩) m d xs v KS w h hlen hxm hv2 hKS)
  have CH := Hid.mk (fun w h => implShad_fix (some ⟨c, 0, none⟩) m d xs KH w h hlen hxm hKH)
  have HB0 := Hid.mk B0
  have HR := Hid.mk RX
  have HML := Hid.mk hlen
  have HM := Hid.mk hm
  clear B0 CD RX hxm hv2 hv
  have B := Below.refl wA.heap.size wA
  by_cases hpy : pyC xs = 0
  rotate_left
  · have hpn : (pyC xs != 0) = true := by simpa using hpy
    clear hKT hKS hKH hlen hm hpy HZ
    generalize pyC xs = kk at *
    go_wp2_with fail
    refine (CT.out _ (HR.out.kept B)).mono ?_
    rintro e w1 ⟨ct, dt, rfl, RT, b1⟩
    have S1 := b1.size
    replace B := thenB B b1
    clear b1
    have Bo := B
    clear RT
    replace B := thenB B (belowA w1 (.cells #[.int .i64 kk, .slice ct KT dt] 45))
    have VT := V.new w1 [.int .i64 kk, .slice ct KT dt] 45
    obtain ⟨s_VT, f_VT, z_VT⟩ := VT.open
    replace Bo := B
    go_upto_region 6 with fail
    clear s_VT f_VT z_VT
    have K : ∀ w' : World, Below (w1.alloc (.cells #[.int .i64 kk, .slice ct KT dt] 45)).heap.size (w1.alloc (.cells #[.int .i64 kk, .slice ct KT dt] 45)) w' → (w'.cell? ⟨w1.heap.size, 0, none⟩ = some (.int .i64 kk) ∧ w'.cell? ⟨w1.heap.size, 1, none⟩ = some (.slice ct KT dt)) := fun w' h => ⟨(VT.kept h).2.1 0 (by simp), (VT.kept h).2.1 1 (by simp)⟩
    have K := Hid.mk K
    refine wp_region_held_drew (S := (fun w' => w'.cell? ⟨w1.heap.size, 0, none⟩ = some (.int .i64 kk) ∧ w'.cell? ⟨w1.heap.size, 1, none⟩ = some (.slice ct KT dt))) (by kernel_rfl) (K.out _ (Below.refl _ _).drew) (fun hHeld => ?_)
    refine wpAnyH_take (i := 0) (oi := _) (v := ?vz1u1) rfl (by kernel_rfl) (by kernel_rfl) (by kernel_rfl) (fun _ _ _ h => h) (Or.inl ⟨by rfl, ?hyz1u1⟩) hHeld ?restz1u1
    case hyz1u1 => (intro w hSw; (try dsimp only at hSw); go_simp; first | done | with_reducible rfl)
    try simp only [Act.put, List.getElem_toArray, List.getElem_cons_zero, List.setIfInBounds_toArray, List.set_cons_zero, List.set_cons_succ]
    refine wpAnyH_take (i := 3) (oi := _) (v := ?vz1u2) rfl (by kernel_rfl) (by kernel_rfl) (by kernel_rfl) (fun _ _ _ h => h) (Or.inl ⟨by rfl, ?hyz1u2⟩) hHeld ?restz1u2
    case hyz1u2 => (intro w hSw; (try dsimp only at hSw); go_simp; first | done | with_reducible rfl)
    try simp only [Act.put, List.getElem_toArray, List.getElem_cons_zero, List.getElem_cons_succ, List.setIfInBounds_toArray, List.set_cons_zero, List.set_cons_succ]
    refine wpAnyH_take (i := 4) (oi := _) (v := ?vz1u3) rfl (by kernel_rfl) (by kernel_rfl) (by kernel_rfl) (fun _ _ _ h => h) (Or.inl ⟨by rfl, ?hyz1u3⟩) hHeld ?restz1u3
    case hyz1u3 => (intro w hSw; (try dsimp only at hSw); go_simp; first | done | with_reducible rfl)
    try simp only [Act.put, List.getElem_toArray, List.getElem_cons_zero, List.getElem_cons_succ, List.setIfInBounds_toArray, List.set_cons_zero, List.set_cons_succ]
    refine wpAnyH_ready (rs := [1]) (by kernel_rfl) (by simp) ?_
    refine AllReadyH.cons (o := _) rfl (fun K0 hK0 => ?_) AllReadyH.nil
    go_simp
    go_at_call 21
    refine (CTs.out _ ((HR.out.kept B).kept (Below.refl _ _).drew)).mono ?_
    rintro e wz1v4 ⟨cs, ds, rfl, bz1v4⟩
    refine hK0.out _ _ (K.out _ (thenB (Below.refl _ _).drew bz1v4)) (fun hHeld => ?_)
    clear hK0 K0
    try simp only [Act.put, List.getElem_toArray, List.getElem_cons_zero, List.getElem_cons_succ, List.setIfInBounds_toArray, List.set_cons_zero, List.set_cons_succ]
    refine wpAnyH_take (i := 2) (oi := _) (v := ?vz1u5) rfl (by kernel_rfl) (by kernel_rfl) (by kernel_rfl) (fun _ _ _ h => h) (Or.inl ⟨by rfl, ?hyz1u5⟩) hHeld ?restz1u5
    case hyz1u5 => (intro w hSw; (try dsimp only at hSw); go_simp; first | done | with_reducible rfl)
    try simp only [Act.put, List.getElem_toArray, List.getElem_cons_zero, List.getElem_cons_succ, List.setIfInBounds_toArray, List.set_cons_zero, List.set_cons_succ]
    refine wpAnyH_take (i := 5) (oi := _) (v := ?vz1u6) rfl (by kernel_rfl) (by kernel_rfl) (by kernel_rfl) (fun _ _ _ h => h) (Or.inl ⟨by rfl, ?hyz1u6⟩) hHeld ?restz1u6
    case hyz1u6 => (intro w hSw; (try dsimp only at hSw); go_simp; first | done | with_reducible rfl)
    try simp only [Act.put, List.getElem_toArray, List.getElem_cons_zero, List.getElem_cons_succ, List.setIfInBounds_toArray, List.set_cons_zero, List.set_cons_succ]
    refine wpAnyH_take (i := 6) (oi := _) (v := ?vz1u7) rfl (by kernel_rfl) (by kernel_rfl) (by kernel_rfl) (fun _ _ _ h => h) (Or.inl ⟨by rfl, ?hyz1u7⟩) hHeld ?restz1u7
    case hyz1u7 => (intro w hSw; (try dsimp only at hSw); go_simp; first | done | with_reducible rfl)
    try simp only [Act.put, List.getElem_toArray, List.getElem_cons_zero, List.getElem_cons_succ, List.setIfInBounds_toArray, List.set_cons_zero, List.set_cons_succ]
    refine wpAnyH_done (by kernel_rfl) ?_ _
    clear K hHeld
    replace VT := VT.kept (thenB (Below.refl _ _).drew bz1v4)
    replace B := thenB B (thenB (Below.refl _ _).drew bz1v4)
    have Sz1 := ((thenB (Below.refl _ _).drew bz1v4)).size
    simp only [World.size_alloc] at Sz1
    clear bz1v4
    obtain ⟨s_VT, f_VT, z_VT⟩ := VT.open
    have Bo := B
    go_wp2
    go_ret
    exact ⟨rfl, HB0.out.trans (B.mono HB0.out.size)⟩
  obtain ⟨hsum, htr⟩ := trims_len hpy
  rw [hKT, hKH, hlen] at hsum
  have hwr : IntKind.i64.wrap ((m : Int) - (KH : Int)) = (KT : Int) := by rw [IntKind.wrap_i64]; omega
  have hlT : (trL xs xs.length).length = KT := by rw [← htr]; exact hKT
  have CF1 := Hid.mk (fun (p : K7) w h => implFirstRule_ok (some ⟨c, 0, none⟩) m d xs p.f p.t p.r p.l p.u p.v p.s p.m p.d w h hlen (by unfold maxLen; omega))
  have CA1 := Hid.mk (fun (p : K7) w h => implActionFor_ok (some ⟨c, 0, none⟩) m d xs p.f p.t p.r p.l p.u p.v p.s p.m p.d w h hlen (by unfold maxLen; omega))
  have CF2 := Hid.mk (fun (ct : Option Addr) (dt : Nat) (p : K7) w h => implFirstRule_ok ct KT dt (trL xs xs.length) p.f p.t p.r p.l p.u p.v p.s p.m p.d w h hlT (by unfold maxLen; omega))
  have hKSm : KS ≤ maxLen := by
    have h5 : (swL xs v).length ≤ 21 := by
      rcases sw_ways2 xs v with ⟨_, _, h⟩ | ⟨_, _, _, h⟩ | ⟨k, x, y, _, _, h1, _, _, _, ⟨_, _, h⟩ | ⟨_, _, h⟩⟩
      · rw [h]; exact Nat.zero_le _
      · rw [h]; exact Nat.zero_le _
      · rw [h]; exact Nat.zero_le _
      · rw [h, List.length_set, List.length_set]; omega
    unfold maxLen; omega
  have CA2 := Hid.mk (fun (cw : Option Addr) (dw : Nat) (p : K7) w h => implActionFor_ok cw KS dw (swL xs v) p.f p.t p.r p.l p.u p.v p.s p.m p.d w h hKS hKSm)
  have CPF := Hid.mk (fun (ct : Option Addr) (dt : Nat) w h => implPolicyFault_ok ct KT dt (trL xs xs.length) w h hlT (by unfold maxLen; omega))
  have HPF := Hid.mk (tr_fault hpy)
  have HFP := Hid.mk (fun (p : K7) => fr_pair hpy p.f p.t p.r p.l p.u p.v p.m)
  have HSW := Hid.mk (fun (h : swC xs v = 0) (p : K7) => sw_same h p.f p.t p.r p.l p.u p.v p.m)
  have hsf := Hid.mk (fun x (hx : x ∈ xs) => (ru_zero ((pyC_zero hpy).2 x hx)).1)
  rw [htr] at CT
  rw [hpy] at CT CTs CH
  generalize swC xs v = W at *
  generalize swL xs v = sw at *
  have hz0 : (0 : Int) ≤ 0 := Int.le_refl 0
  clear hz0 hKT hKS hKH hsum htr hlT hKSm hpy hlen hm
  go_wp2_with fail
  refine (CT.out _ (HR.out.kept B)).mono ?_
  rintro e w11 ⟨ct, dt, rfl, RTr, b11⟩
  have S11 := b11.size
  replace B := thenB B b11
  clear b11
  have Bo := B
  replace RTr := RTr.kept (belowA w11 (.cells #[.int .i64 0, .slice ct KT dt] 45))
  replace B := thenB B (belowA w11 (.cells #[.int .i64 0, .slice ct KT dt] 45))
  have VT := V.new w11 [.int .i64 0, .slice ct KT dt] 45
  obtain ⟨s_VT, f_VT, z_VT⟩ := VT.open
  replace Bo := B
  go_wp2_with fail
  refine (CW.out _ (HR.out.kept B)).mono ?_
  rintro e w12 ⟨cw, dw, rfl, RSw, b12⟩
  clear s_VT f_VT z_VT
  have S12 := b12.size
  simp only [World.size_alloc] at S12
  replace VT := VT.kept b12
  replace RTr := RTr.kept b12
  replace B := thenB B b12
  clear b12
  obtain ⟨s_VT, f_VT, z_VT⟩ := VT.open
  have Bo := B
  replace VT := VT.kept (belowA w12 (.cells #[.int .i64 W, .slice cw KS dw] 45))
  replace RTr := RTr.kept (belowA w12 (.cells #[.int .i64 W, .slice cw KS dw] 45))
  replace RSw := RSw.kept (belowA w12 (.cells #[.int .i64 W, .slice cw KS dw] 45))
  replace B := thenB B (belowA w12 (.cells #[.int .i64 W, .slice cw KS dw] 45))
  have VS := V.new w12 [.int .i64 W, .slice cw KS dw] 45
  clear s_VT f_VT z_VT
  obtain ⟨s_VT, f_VT, z_VT⟩ := VT.open
  obtain ⟨s_VS, f_VS, z_VS⟩ := VS.open
  replace Bo := B
  go_upto_region 8 with fail
  clear s_VT f_VT z_VT s_VS f_VS z_VS
  have K : ∀ w' : World, Below (w12.alloc (.cells #[.int .i64 W, .slice cw KS dw] 45)).heap.size (w12.alloc (.cells #[.int .i64 W, .slice cw KS dw] 45)) w' → (w'.cell? ⟨w11.heap.size, 0, none⟩ = some (.int .i64 0) ∧ w'.cell? ⟨w11.heap.size, 1, none⟩ = some (.slice ct KT dt) ∧ w'.cell? ⟨w12.heap.size, 0, none⟩ = some (.int .i64 W) ∧ w'.cell? ⟨w12.heap.size, 1, none⟩ = some (.slice cw KS dw)) := fun w' h => ⟨(VT.kept h).2.1 0 (by simp), (VT.kept h).2.1 1 (by simp), (VS.kept h).2.1 0 (by simp), (VS.kept h).2.1 1 (by simp)⟩
  have K := Hid.mk K
  refine wp_region_held_drew (S := (fun w' => w'.cell? ⟨w11.heap.size, 0, none⟩ = some (.int .i64 0) ∧ w'.cell? ⟨w11.heap.size, 1, none⟩ = some (.slice ct KT dt) ∧ w'.cell? ⟨w12.heap.size, 0, none⟩ = some (.int .i64 W) ∧ w'.cell? ⟨w12.heap.size, 1, none⟩ = some (.slice cw KS dw))) (by kernel_rfl) (K.out _ (Below.refl _ _).drew) (fun hHeld => ?_)
  refine wpAnyH_take (i := 0) (oi := _) (v := ?vz11u1) rfl (by kernel_rfl) (by kernel_rfl) (by kernel_rfl) (fun _ _ _ h => h) (Or.inl ⟨by rfl, ?hyz11u1⟩) hHeld ?restz11u1
  case hyz11u1 => (intro w hSw; (try dsimp only at hSw); go_simp; first | done | with_reducible rfl)
  try simp only [Act.put, List.getElem_toArray, List.getElem_cons_zero, List.setIfInBounds_toArray, List.set_cons_zero, List.set_cons_succ]
  refine wpAnyH_take (i := 1) (oi := _) (v := ?vz11u2) rfl (by kernel_rfl) (by kernel_rfl) (by kernel_rfl) (fun _ _ _ h => h) (Or.inl ⟨by rfl, ?hyz11u2⟩) hHeld ?restz11u2
  case hyz11u2 => (intro w hSw; (try dsimp only at hSw); go_simp; first | done | with_reducible rfl)
  try simp only [Act.put, List.getElem_toArray, List.getElem_cons_zero, List.getElem_cons_succ, List.setIfInBounds_toArray, List.set_cons_zero, List.set_cons_succ]
  refine wpAnyH_take (i := 2) (oi := _) (v := ?vz11u3) rfl (by kernel_rfl) (by kernel_rfl) (by kernel_rfl) (fun _ _ _ h => h) (Or.inl ⟨by rfl, ?hyz11u3⟩) hHeld ?restz11u3
  case hyz11u3 => (intro w hSw; (try dsimp only at hSw); go_simp; first | done | with_reducible rfl)
  try simp only [Act.put, List.getElem_toArray, List.getElem_cons_zero, List.getElem_cons_succ, List.setIfInBounds_toArray, List.set_cons_zero, List.set_cons_succ]
  refine wpAnyH_take (i := 3) (oi := _) (v := ?vz11u4) rfl (by kernel_rfl) (by kernel_rfl) (by kernel_rfl) (fun _ _ _ h => h) (Or.inl ⟨by rfl, ?hyz11u4⟩) hHeld ?restz11u4
  case hyz11u4 => (intro w hSw; (try dsimp only at hSw); go_simp; first | done | with_reducible rfl)
  try simp only [Act.put, List.getElem_toArray, List.getElem_cons_zero, List.getElem_cons_succ, List.setIfInBounds_toArray, List.set_cons_zero, List.set_cons_succ]
  refine wpAnyH_ready (rs := [4]) (by kernel_rfl) (by simp) ?_
  refine AllReadyH.cons (o := _) rfl (fun K0 hK0 => ?_) AllReadyH.nil
  go_simp
  go_at_call 23
  refine (CWs.out _ ((HR.out.kept B).kept (Below.refl _ _).drew)).mono ?_
  rintro e wz11v5 ⟨c1', d1', rfl, bz11v5⟩
  refine hK0.out _ _ (K.out _ (thenB (Below.refl _ _).drew bz11v5)) (fun hHeld => ?_)
  clear hK0 K0
  try simp only [Act.put, List.getElem_toArray, List.getElem_cons_zero, List.getElem_cons_succ, List.setIfInBounds_toArray, List.set_cons_zero, List.set_cons_succ]
  refine wpAnyH_take (i := 5) (oi := _) (v := ?vz11u6) rfl (by kernel_rfl) (by kernel_rfl) (by kernel_rfl) (fun _ _ _ h => h) (Or.inl ⟨by rfl, ?hyz11u6⟩) hHeld ?restz11u6
  case hyz11u6 => (intro w hSw; (try dsimp only at hSw); go_simp; first | done | with_reducible rfl)
  try simp only [Act.put, List.getElem_toArray, List.getElem_cons_zero, List.getElem_cons_succ, List.setIfInBounds_toArray, List.set_cons_zero, List.set_cons_succ]
  refine wpAnyH_take (i := 6) (oi := _) (v := ?vz11u7) rfl (by kernel_rfl) (by kernel_rfl) (by kernel_rfl) (fun _ _ _ h => h) (Or.inl ⟨by rfl, ?hyz11u7⟩) hHeld ?restz11u7
  case hyz11u7 => (intro w hSw; (try dsimp only at hSw); go_simp; first | done | with_reducible rfl)
  try simp only [Act.put, List.getElem_toArray, List.getElem_cons_zero, List.getElem_cons_succ, List.setIfInBounds_toArray, List.set_cons_zero, List.set_cons_succ]
  refine wpAnyH_take (i := 7) (oi := _) (v := ?vz11u8) rfl (by kernel_rfl) (by kernel_rfl) (by kernel_rfl) (fun _ _ _ h => h) (Or.inl ⟨by rfl, ?hyz11u8⟩) hHeld ?restz11u8
  case hyz11u8 => (intro w hSw; (try dsimp only at hSw); go_simp; first | done | with_reducible rfl)
  try simp only [Act.put, List.getElem_toArray, List.getElem_cons_zero, List.getElem_cons_succ, List.setIfInBounds_toArray, List.set_cons_zero, List.set_cons_succ]
  refine wpAnyH_take (i := 8) (oi := _) (v := ?vz11u9) rfl (by kernel_rfl) (by kernel_rfl) (by kernel_rfl) (fun _ _ _ h => h) (Or.inl ⟨by rfl, ?hyz11u9⟩) hHeld ?restz11u9
  case hyz11u9 => (intro w hSw; (try dsimp only at hSw); go_simp; first | done | with_reducible rfl)
  try simp only [Act.put, List.getElem_toArray, List.getElem_cons_zero, List.getElem_cons_succ, List.setIfInBounds_toArray, List.set_cons_zero, List.set_cons_succ]
  refine wpAnyH_take (i := 9) (oi := _) (v := ?vz11u10) rfl (by kernel_rfl) (by kernel_rfl) (by kernel_rfl) (fun _ _ _ h => h) (Or.inl ⟨by rfl, ?hyz11u10⟩) hHeld ?restz11u10
  case hyz11u10 => (intro w hSw; (try dsimp only at hSw); go_simp; first | done | with_reducible rfl)
  try simp only [Act.put, List.getElem_toArray, List.getElem_cons_zero, List.getElem_cons_succ, List.setIfInBounds_toArray, List.set_cons_zero, List.set_cons_succ]
  refine wpAnyH_take (i := 10) (oi := _) (v := ?vz11u11) rfl (by kernel_rfl) (by kernel_rfl) (by kernel_rfl) (fun _ _ _ h => h) (Or.inl ⟨by rfl, ?hyz11u11⟩) hHeld ?restz11u11
  case hyz11u11 => (intro w hSw; (try dsimp only at hSw); go_simp; first | done | with_reducible rfl)
  try simp only [Act.put, List.getElem_toArray, List.getElem_cons_zero, List.getElem_cons_succ, List.setIfInBounds_toArray, List.set_cons_zero, List.set_cons_succ]
  refine wpAnyH_take (i := 11) (oi := _) (v := ?vz11u12) rfl (by kernel_rfl) (by kernel_rfl) (by kernel_rfl) (fun _ _ _ h => h) (Or.inl ⟨by rfl, ?hyz11u12⟩) hHeld ?restz11u12
  case hyz11u12 => (intro w hSw; (try dsimp only at hSw); go_simp; first | done | with_reducible rfl)
  try simp only [Act.put, List.getElem_toArray, List.getElem_cons_zero, List.getElem_cons_succ, List.setIfInBounds_toArray, List.set_cons_zero, List.set_cons_succ]
  refine wpAnyH_take (i := 12) (oi := _) (v := ?vz11u13) rfl (by kernel_rfl) (by kernel_rfl) (by kernel_rfl) (fun _ _ _ h => h) (Or.inl ⟨by rfl, ?hyz11u13⟩) hHeld ?restz11u13
  case hyz11u13 => (intro w hSw; (try dsimp only at hSw); go_simp; first | done | with_reducible rfl)
  try simp only [Act.put, List.getElem_toArray, List.getElem_cons_zero, List.getElem_cons_succ, List.setIfInBounds_toArray, List.set_cons_zero, List.set_cons_succ]
  refine wpAnyH_take (i := 13) (oi := _) (v := ?vz11u14) rfl (by kernel_rfl) (by kernel_rfl) (by kernel_rfl) (fun _ _ _ h => h) (Or.inl ⟨by rfl, ?hyz11u14⟩) hHeld ?restz11u14
  case hyz11u14 => (intro w hSw; (try dsimp only at hSw); go_simp; first | done | with_reducible rfl)
  try simp only [Act.put, List.getElem_toArray, List.getElem_cons_zero, List.getElem_cons_succ, List.setIfInBounds_toArray, List.set_cons_zero, List.set_cons_succ]
  refine wpAnyH_ready (rs := [14]) (by kernel_rfl) (by simp) ?_
  refine AllReadyH.cons (o := _) rfl (fun K0 hK0 => ?_) AllReadyH.nil
  go_simp
  go_at_call 24
  refine (CH.out _ ((HR.out.kept B).kept (thenB (Below.refl _ _).drew bz11v5))).mono ?_
  rintro e wz11v15 ⟨c2', d2', rfl, bz11v15⟩
  refine hK0.out _ _ (K.out _ (thenB (thenB (Below.refl _ _).drew bz11v5) bz11v15)) (fun hHeld => ?_)
  clear hK0 K0
  try simp only [Act.put, List.getElem_toArray, List.getElem_cons_zero, List.getElem_cons_succ, List.setIfInBounds_toArray, List.set_cons_zero, List.set_cons_succ]
  refine wpAnyH_take (i := 15) (oi := _) (v := ?vz11u16) rfl (by kernel_rfl) (by kernel_rfl) (by kernel_rfl) (fun _ _ _ h => h) (Or.inl ⟨by rfl, ?hyz11u16⟩) hHeld ?restz11u16
  case hyz11u16 => (intro w hSw; (try dsimp only at hSw); go_simp; first | done | with_reducible rfl)
  try simp only [Act.put, List.getElem_toArray, List.getElem_cons_zero, List.getElem_cons_succ, List.setIfInBounds_toArray, List.set_cons_zero, List.set_cons_succ]
  refine wpAnyH_take (i := 16) (oi := _) (v := ?vz11u17) rfl (by kernel_rfl) (by kernel_rfl) (by kernel_rfl) (fun _ _ _ h => h) (Or.inl ⟨by rfl, ?hyz11u17⟩) hHeld ?restz11u17
  case hyz11u17 => (intro w hSw; (try dsimp only at hSw); go_simp; first | done | with_reducible rfl)
  try simp only [Act.put, List.getElem_toArray, List.getElem_cons_zero, List.getElem_cons_succ, List.setIfInBounds_toArray, List.set_cons_zero, List.set_cons_succ]
  refine wpAnyH_take (i := 17) (oi := _) (v := ?vz11u18) rfl (by kernel_rfl) (by kernel_rfl) (by kernel_rfl) (fun _ _ _ h => h) (Or.inl ⟨by rfl, ?hyz11u18⟩) hHeld ?restz11u18
  case hyz11u18 => (intro w hSw; (try dsimp only at hSw); go_simp; first | done | with_reducible rfl)
  try simp only [Act.put, List.getElem_toArray, List.getElem_cons_zero, List.getElem_cons_succ, List.setIfInBounds_toArray, List.set_cons_zero, List.set_cons_succ]
  refine wpAnyH_take (i := 18) (oi := _) (v := ?vz11u19) rfl (by kernel_rfl) (by kernel_rfl) (by kernel_rfl) (fun _ _ _ h => h) (Or.inl ⟨by rfl, ?hyz11u19⟩) hHeld ?restz11u19
  case hyz11u19 => (intro w hSw; (try dsimp only at hSw); go_simp; first | done | with_reducible rfl)
  try simp only [Act.put, List.getElem_toArray, List.getElem_cons_zero, List.getElem_cons_succ, List.setIfInBounds_toArray, List.set_cons_zero, List.set_cons_succ]
  refine wpAnyH_take (i := 19) (oi := _) (v := ?vz11u20) rfl (by kernel_rfl) (by kernel_rfl) (by kernel_rfl) (fun _ _ _ h => h) (Or.inl ⟨by rfl, ?hyz11u20⟩) hHeld ?restz11u20
  case hyz11u20 => (intro w hSw; (try dsimp only at hSw); go_simp; first | done | with_reducible rfl)
  try simp only [Act.put, List.getElem_toArray, List.getElem_cons_zero, List.getElem_cons_succ, List.setIfInBounds_toArray, List.set_cons_zero, List.set_cons_succ]
  refine wpAnyH_take (i := 20) (oi := _) (v := ?vz11u21) rfl (by kernel_rfl) (by kernel_rfl) (by kernel_rfl) (fun _ _ _ h => h) (Or.inl ⟨by rfl, ?hyz11u21⟩) hHeld ?restz11u21
  case hyz11u21 => (intro w hSw; (try dsimp only at hSw); go_simp; first | done | with_reducible rfl)
  try simp only [Act.put, List.getElem_toArray, List.getElem_cons_zero, List.getElem_cons_succ, List.setIfInBounds_toArray, List.set_cons_zero, List.set_cons_succ]
  refine wpAnyH_take (i := 21) (oi := _) (v := ?vz11u22) rfl (by kernel_rfl) (by kernel_rfl) (by kernel_rfl) (fun _ _ _ h => h) (Or.inl ⟨by rfl, ?hyz11u22⟩) hHeld ?restz11u22
  case hyz11u22 => (intro w hSw; (try dsimp only at hSw); go_simp; first | done | with_reducible rfl)
  try simp only [Act.put, List.getElem_toArray, List.getElem_cons_zero, List.getElem_cons_succ, List.setIfInBounds_toArray, List.set_cons_zero, List.set_cons_succ]
  refine wpAnyH_take (i := 22) (oi := _) (v := ?vz11u23) rfl (by kernel_rfl) (by kernel_rfl) (by kernel_rfl) (fun _ _ _ h => h) (Or.inl ⟨by rfl, ?hyz11u23⟩) hHeld ?restz11u23
  case hyz11u23 => (intro w hSw; (try dsimp only at hSw); go_simp; first | done | with_reducible rfl)
  try simp only [Act.put, List.getElem_toArray, List.getElem_cons_zero, List.getElem_cons_succ, List.setIfInBounds_toArray, List.set_cons_zero, List.set_cons_succ]
  refine wpAnyH_take (i := 23) (oi := _) (v := ?vz11u24) rfl (by kernel_rfl) (by kernel_rfl) (by kernel_rfl) (fun _ _ _ h => h) (Or.inl ⟨by rfl, ?hyz11u24⟩) hHeld ?restz11u24
  case hyz11u24 => (intro w hSw; (try dsimp only at hSw); go_simp; first | done | with_reducible rfl)
  try simp only [Act.put, List.getElem_toArray, List.getElem_cons_zero, List.getElem_cons_succ, List.setIfInBounds_toArray, List.set_cons_zero, List.set_cons_succ]
  refine wpAnyH_take (i := 24) (oi := _) (v := ?vz11u25) rfl (by kernel_rfl) (by kernel_rfl) (by kernel_rfl) (fun _ _ _ h => h) (Or.inl ⟨by rfl, ?hyz11u25⟩) hHeld ?restz11u25
  case hyz11u25 => (intro w hSw; (try dsimp only at hSw); go_simp; first | done | with_reducible rfl)
  try simp only [Act.put, List.getElem_toArray, List.getElem_cons_zero, List.getElem_cons_succ, List.setIfInBounds_toArray, List.set_cons_zero, List.set_cons_succ]
  refine wpAnyH_ready (rs := [25]) (by kernel_rfl) (by simp) ?_
  refine AllReadyH.cons (o := _) rfl (fun K0 hK0 => ?_) AllReadyH.nil
  go_simp
  go_at_call 21
  refine (CTs.out _ ((HR.out.kept B).kept (thenB (thenB (Below.refl _ _).drew bz11v5) bz11v15))).mono ?_
  rintro e wz11v26 ⟨c3', d3', rfl, bz11v26⟩
  refine hK0.out _ _ (K.out _ (thenB (thenB (thenB (Below.refl _ _).drew bz11v5) bz11v15) bz11v26)) (fun hHeld => ?_)
  clear hK0 K0
  try simp only [Act.put, List.getElem_toArray, List.getElem_cons_zero, List.getElem_cons_succ, List.setIfInBounds_toArray, List.set_cons_zero, List.set_cons_succ]
  refine wpAnyH_take (i := 26) (oi := _) (v := ?vz11u27) rfl (by kernel_rfl) (by kernel_rfl) (by kernel_rfl) (fun _ _ _ h => h) (Or.inl ⟨by rfl, ?hyz11u27⟩) hHeld ?restz11u27
  case hyz11u27 => (intro w hSw; (try dsimp only at hSw); go_simp; first | done | with_reducible rfl)
  try simp only [Act.put, List.getElem_toArray, List.getElem_cons_zero, List.getElem_cons_succ, List.setIfInBounds_toArray, List.set_cons_zero, List.set_cons_succ]
  refine wpAnyH_take (i := 27) (oi := _) (v := ?vz11u28) rfl (by kernel_rfl) (by kernel_rfl) (by kernel_rfl) (fun _ _ _ h => h) (Or.inl ⟨by rfl, ?hyz11u28⟩) hHeld ?restz11u28
  case hyz11u28 => (intro w hSw; (try dsimp only at hSw); go_simp; first | done | with_reducible rfl)
  try simp only [Act.put, List.getElem_toArray, List.getElem_cons_zero, List.getElem_cons_succ, List.setIfInBounds_toArray, List.set_cons_zero, List.set_cons_succ]
  refine wpAnyH_take (i := 28) (oi := _) (v := ?vz11u29) rfl (by kernel_rfl) (by kernel_rfl) (by kernel_rfl) (fun _ _ _ h => h) (Or.inl ⟨by rfl, ?hyz11u29⟩) hHeld ?restz11u29
  case hyz11u29 => (intro w hSw; (try dsimp only at hSw); go_simp; first | done | with_reducible rfl)
  try simp only [Act.put, List.getElem_toArray, List.getElem_cons_zero, List.getElem_cons_succ, List.setIfInBounds_toArray, List.set_cons_zero, List.set_cons_succ]
  refine wpAnyH_take (i := 29) (oi := _) (v := ?vz11u30) rfl (by kernel_rfl) (by kernel_rfl) (by kernel_rfl) (fun _ _ _ h => h) (Or.inl ⟨by rfl, ?hyz11u30⟩) hHeld ?restz11u30
  case hyz11u30 => (intro w hSw; (try dsimp only at hSw); go_simp; first | done | with_reducible rfl)
  try simp only [Act.put, List.getElem_toArray, List.getElem_cons_zero, List.getElem_cons_succ, List.setIfInBounds_toArray, List.set_cons_zero, List.set_cons_succ]
  refine wpAnyH_done (by kernel_rfl) ?_ _
  clear K hHeld
  replace VT := VT.kept (thenB (thenB (thenB (Below.refl _ _).drew bz11v5) bz11v15) bz11v26)
  replace VS := VS.kept (thenB (thenB (thenB (Below.refl _ _).drew bz11v5) bz11v15) bz11v26)
  replace RTr := RTr.kept (thenB (thenB (thenB (Below.refl _ _).drew bz11v5) bz11v15) bz11v26)
  replace RSw := RSw.kept (thenB (thenB (thenB (Below.refl _ _).drew bz11v5) bz11v15) bz11v26)
  replace B := thenB B (thenB (thenB (thenB (Below.refl _ _).drew bz11v5) bz11v15) bz11v26)
  have Sz11 := ((thenB (thenB (thenB (Below.refl _ _).drew bz11v5) bz11v15) bz11v26)).size
  simp only [World.size_alloc] at Sz11
  clear bz11v5 bz11v15 bz11v26
  obtain ⟨s_VT, f_VT, z_VT⟩ := VT.open
  obtain ⟨s_VS, f_VS, z_VS⟩ := VS.open
  have Bo := B
  clear s_VT f_VT z_VT s_VS f_VS z_VS
  obtain ⟨i0, hi, j0, j1, j2⟩ := info_parts Tryd.info_u8
  have OL : Own .u8 5 (wz11v26.alloc (.cells #[.int .u8 3] 5)) wz11v26.heap.size (some ⟨wz11v26.heap.size, 0, none⟩) 1 [3] := Own.lit wz11v26 5 [3] (by decide)
  have Bl := Hid.mk (belowA wz11v26 (.cells #[.int .u8 3] 5))
  have R := ((HZ.out.kept HB0.out).kept B).kept Bl.out
  replace VT := Hid.mk VT
  replace VS := Hid.mk VS
  replace RTr := Hid.mk RTr
  replace RSw := Hid.mk RSw
  replace B := Hid.mk B
  clear Bo
  go_wp2_with (at_builtin; go_loud (refine wpList_put _ rfl _ _ 22 rfl wz11v26.heap.size 5 i0 Tryd.underlying22 hi j0 j1 j2 _ _ 1 [3] rfl OL rfl _ _ _ zs rfl R hn hcn (1 + n) (3 :: zs) rfl rfl (by omega) (by simp) ?_))
  intro c4 d4 w4 O4 b4
  have Bn := Bl.out.trans b4
  clear OL R b4 Bl
  replace VT := Hid.mk (VT.out.kept Bn)
  replace VS := Hid.mk (VS.out.kept Bn)
  replace RTr := Hid.mk (RTr.out.kept Bn)
  replace RSw := Hid.mk (RSw.out.kept Bn)
  replace B := Hid.mk (thenB B.out Bn)
  clear Bn
  have hn4 : (3 :: zs).length = 1 + n := by simp; omega
  have hb3 := bytes3 hb
  generalize 3 :: zs = zs4 at *
  go_wp2_with fail
  refine (drawFirstRule_ok c4 (1 + n) d4 zs4 _ O4.rd hb3 hn4 (by omega)).mono ?_
  rintro e w5 ⟨c6, d6, m6, ys, f, t, r, l, u, v6, s, g0, g1, rfl, _, _, _, _, b5⟩
  have VT5 := Hid.mk (VT.out.kept b5)
  have VS5 := Hid.mk (VS.out.kept b5)
  have RT5 := Hid.mk (RTr.out.kept b5)
  have RS5 := Hid.mk (RSw.out.kept b5)
  have RX5 := Hid.mk ((HR.out.kept B.out).kept b5)
  have B5 := Hid.mk (HB0.out.trans ((thenB B.out b5).mono HB0.out.size))
  clear VT VS RTr RSw B b5 O4 hn4 hb3 HR HB0 CT CTs CW CWs CH HZ
  have O : OwnK ((w5.alloc (.cells #[.int .i64 f, .int .i64 t, .int .i64 r, .int .i64 l, .int .i64 u, .int .i64 v6, .slice s g0 g1] 26)).alloc (.cells #[.int .i64 f, .int .i64 t, .int .i64 r, .int .i64 l, .int .i64 u, .int .i64 v6, .slice s g0 g1] 26)) w5.heap.size (some ⟨w5.heap.size + 1, 0, none⟩) 1 [⟨f, t, r, l, u, v6, s, g0, g1⟩] := by
    have h := OwnK.lit (w5.alloc (.cells #[.int .i64 f, .int .i64 t, .int .i64 r, .int .i64 l, .int .i64 u, .int .i64 v6, .slice s g0 g1] 26)) [⟨f, t, r, l, u, v6, s, g0, g1⟩] [.int .i64 f, .int .i64 t, .int .i64 r, .int .i64 l, .int .i64 u, .int .i64 v6, .slice s g0 g1] rfl (by simp [maxLen])
    simp only [World.size_alloc] at h
    exact OwnK.mono h (by omega)
  have B := belowA2 w5 (.cells #[.int .i64 f, .int .i64 t, .int .i64 r, .int .i64 l, .int .i64 u, .int .i64 v6, .slice s g0 g1] 26) (.cells #[.int .i64 f, .int .i64 t, .int .i64 r, .int .i64 l, .int .i64 u, .int .i64 v6, .slice s g0 g1] 26)
  have V6 := V.new w5 [.int .i64 f, .int .i64 t, .int .i64 r, .int .i64 l, .int .i64 u, .int .i64 v6, .slice s g0 g1] 26
  obtain ⟨s_V6, f_V6, z_V6⟩ := V6.open
  replace O := Hid.mk O
  replace B := Hid.mk B
  clear V6
  go_wp2
  clear s_V6 f_V6 z_V6
  go_loopw [9, 10] (fun v i wr => ∃ (x d c : Nat) (ps : List K7), x ≤ m ∧ i = .int .i64 x ∧ v = .slice (some ⟨c, 0, none⟩) (x + 1) d ∧ ps.length = x + 1 ∧ OwnK wr w5.heap.size (some ⟨c, 0, none⟩) d ps ∧ Below w5.heap.size w5 wr) (fun _ i _ => m - (intOf i).toNat)
  case atStart => exact ⟨0, 1, w5.heap.size + 1, _, Nat.zero_le _, rfl, rfl, rfl, O.out, B.out⟩
  case round =>
    clear O B
    obtain ⟨x, d8, c8, ps, hx, rfl, rfl, hps, O, B⟩ := hrel
    by_cases hlt : x < m
    · obtain ⟨y, hy⟩ : ∃ y, xs.getD x zRule = y := ⟨_, rfl⟩
      have hyf : sfC y.s = 0 := hsf.out _ (by rw [← hy]; exact getDRule_mem (by rw [HML.out]; exact hlt))
      obtain ⟨r1, hr1⟩ : ∃ r1, r1 = if y.s.r = 0 then 6 else y.s.r := ⟨_, rfl⟩
      have CSm := Hid.mk (fun w => implSample_ok y.s hyf r1 hr1 w)
      have hk1 : (x : Int) < (m : Int) := by omega
      rcases RX5.out.kept B with h0 | ⟨b3, o, hbo, hc⟩
      · have := HML.out; rw [h0] at this; simp at this; omega
      simp only [Option.some.injEq, Addr.mk.injEq, and_true] at hbo
      obtain ⟨rfl, rfl⟩ := hbo
      obtain ⟨p0, p1, p2, p3, p4, p5, p6, p7, p8, p9, p10⟩ := RdRule.cells hc x (by rw [HML.out]; exact hlt) y hy
      simp only [Nat.zero_add] at p0 p1 p2 p3 p4 p5 p6 p7 p8
      have HPS := Hid.mk hps
      clear hc hy hr1 hyf p9 p10 hps
      replace O := Hid.mk O
      replace B := Hid.mk B
      go_wp2_with fail
      refine (CSm.out _).mono ?_
      rintro e w6 ⟨rfl, b6⟩
      clear p0 p1 p2 p3 p4 p5 p6 p7 p8 CSm
      replace O := O.out.kept b6
      replace B := thenB B.out b6
      replace O := O.kept (belowA w6 (.cells #[.int .i64 y.s.a, .int .i64 y.s.c, .int .i64 r1, .int .i64 64, .int .i64 y.s.e, .int .i64 y.s.g, .slice none 0 0] 26))
      replace B := thenB B (belowA w6 (.cells #[.int .i64 y.s.a, .int .i64 y.s.c, .int .i64 r1, .int .i64 64, .int .i64 y.s.e, .int .i64 y.s.g, .slice none 0 0] 26))
      have TL := B.size
      replace B := Hid.mk B
      clear b6
      go_wp2_with (at_builtin; go_loud (refine wpList_putK _ rfl _ _ rfl w5.heap.size (some ⟨c8, 0, none⟩) d8 ps (x + 1) HPS.out rfl O _ 1 ⟨y.s.a, y.s.c, r1, 64, y.s.e, y.s.g, none, 0, 0⟩ rfl (newCells _ _ (rowK ⟨y.s.a, y.s.c, r1, 64, y.s.e, y.s.g, none, 0, 0⟩)) (by have := HM.out; omega) TL ?_))
      intro c9 d9 w8 O8 hg8 hx8
      obtain ⟨c10, rfl, _, _⟩ := hx8.out
      replace B := Hid.mk (belowG (c := some ⟨c8, 0, none⟩) B.out hg8 TL (fun b hb => (O.lt b hb).1))
      have hl8 : Hid ((ps ++ [(⟨y.s.a, y.s.c, r1, 64, y.s.e, y.s.g, none, 0, 0⟩ : K7)]).length = x + 1 + 1) := Hid.mk (by rw [List.length_append, HPS.out]; rfl)
      have hmb := HM.out
      replace O8 := Hid.mk O8
      clear O hg8 hx8 TL
      go_wp2
      go_roundw
      case rel => exact ⟨x + 1, d9, c10, _, by omega, by go_num, rfl, hl8.out, O8.out, B.out⟩
      case measure => simp [intOf]; omega
    · obtain rfl : x = m := by omega
      have RK := O.rd
      clear O
      rcases RK with h0 | ⟨b3, o, hbo, hc⟩
      · rw [h0] at hps; simp at hps
      obtain rfl : b3 = c8 := by simp at hbo; exact hbo.1.symm
      obtain rfl : o = 0 := by simp at hbo; exact hbo.symm
      have RK6 := Hid.mk (show RdK wr (some ⟨b3, 0, none⟩) ps from .inr ⟨b3, 0, rfl, hc⟩)
      have RX6 := Hid.mk (RX5.out.kept B)
      have RT6 := Hid.mk (RT5.out.kept B)
      have RS6 := Hid.mk (RS5.out.kept B)
      have VT6 := Hid.mk (VT5.out.kept B)
      have VS6 := Hid.mk (VS5.out.kept B)
      have B6 := Hid.mk (thenB B5.out B)
      have hmb := HM.out
      clear hc hbo B RX5 RT5 RS5 VT5 VS5 B5 hlt hx
      generalize wr = wo at *
      go_wp2
      go_loopw [11] (fun i wz => ∃ k : Nat, k ≤ x + 1 ∧ i = .int .i64 k ∧ Below wo.heap.size wo wz) (fun i _ => x + 1 - (intOf i).toNat)
      case atStart => exact ⟨0, Nat.zero_le _, rfl, Below.refl _ _⟩
      case round =>
        obtain ⟨kq, hkq, rfl, B⟩ := hrel
        by_cases hlt : kq < x + 1
        · obtain ⟨p, hp⟩ : ∃ p, ps.getD kq z7 = p := ⟨_, rfl⟩
          have hk1 : (kq : Int) < (x : Int) + 1 := by omega
          obtain ⟨C, A1, A2, R, hf1, hf2⟩ := HFP.out p
          have C1 := Hid.mk (CF1.out p)
          have C2 := Hid.mk (CF2.out ct dt p)
          have C3 := Hid.mk (CA1.out p)
          have C4 := Hid.mk (CA2.out cw dw p)
          rw [hf1] at C1
          rw [hf2] at C2
          clear hf1 hf2
          have qn := neqRuleSelf R
          have qi := neqIrSelf
          have RK := RK6.out.kept B
          have VT := VT6.out.kept B
          have VS := VS6.out.kept B
          obtain ⟨q0, q1, q2, q3, q4, q5, q6⟩ := RdK.at RK kq (by omega) _ hp
          simp only [Nat.zero_add] at q0 q1 q2 q3 q4 q5 q6
          obtain ⟨s_VT, f_VT, z_VT⟩ := VT.open
          obtain ⟨s_VS, f_VS, z_VS⟩ := VS.open
          have Bo := B
          go_wp2_with fail
          refine (C1.out _ (RX6.out.kept B)).mono ?_
          rintro e w31 ⟨rfl, b31⟩
          clear s_VT f_VT z_VT s_VS f_VS z_VS
          have S31 := b31.size
          replace VT := VT.kept b31
          replace VS := VS.kept b31
          replace RK := RK.kept b31
          replace B := thenB B b31
          clear b31
          obtain ⟨s_VT, f_VT, z_VT⟩ := VT.open
          obtain ⟨s_VS, f_VS, z_VS⟩ := VS.open
          have Bo := B
          clear q0 q1 q2 q3 q4 q5 q6
          replace VT := VT.kept (belowA w31 (.cells #[.int .i64 C, .int .i64 A1, .int .i64 R.s.a, .int .i64 R.s.b, .int .i64 R.s.c, .int .i64 R.s.d, .int .i64 R.s.e, .int .i64 R.s.f, .int .i64 R.s.g, .int .i64 R.s.h, .int .i64 R.s.r, .int .i64 R.p, .int .i64 R.q] 36))
          replace VS := VS.kept (belowA w31 (.cells #[.int .i64 C, .int .i64 A1, .int .i64 R.s.a, .int .i64 R.s.b, .int .i64 R.s.c, .int .i64 R.s.d, .int .i64 R.s.e, .int .i64 R.s.f, .int .i64 R.s.g, .int .i64 R.s.h, .int .i64 R.s.r, .int .i64 R.p, .int .i64 R.q] 36))
          replace RK := RK.kept (belowA w31 (.cells #[.int .i64 C, .int .i64 A1, .int .i64 R.s.a, .int .i64 R.s.b, .int .i64 R.s.c, .int .i64 R.s.d, .int .i64 R.s.e, .int .i64 R.s.f, .int .i64 R.s.g, .int .i64 R.s.h, .int .i64 R.s.r, .int .i64 R.p, .int .i64 R.q] 36))
          replace B := thenB B (belowA w31 (.cells #[.int .i64 C, .int .i64 A1, .int .i64 R.s.a, .int .i64 R.s.b, .int .i64 R.s.c, .int .i64 R.s.d, .int .i64 R.s.e, .int .i64 R.s.f, .int .i64 R.s.g, .int .i64 R.s.h, .int .i64 R.s.r, .int .i64 R.p, .int .i64 R.q] 36))
          have VW := V.new w31 [.int .i64 C, .int .i64 A1, .int .i64 R.s.a, .int .i64 R.s.b, .int .i64 R.s.c, .int .i64 R.s.d, .int .i64 R.s.e, .int .i64 R.s.f, .int .i64 R.s.g, .int .i64 R.s.h, .int .i64 R.s.r, .int .i64 R.p, .int .i64 R.q] 36
          clear s_VT f_VT z_VT s_VS f_VS z_VS
          obtain ⟨s_VT, f_VT, z_VT⟩ := VT.open
          obtain ⟨s_VS, f_VS, z_VS⟩ := VS.open
          obtain ⟨s_VW, f_VW, z_VW⟩ := VW.open
          replace Bo := B
          go_upto_region 20 with fail
          clear s_VT f_VT z_VT s_VS f_VS z_VS s_VW f_VW z_VW
          generalize (w31.alloc (.cells #[.int .i64 C, .int .i64 A1, .int .i64 R.s.a, .int .i64 R.s.b, .int .i64 R.s.c, .int .i64 R.s.d, .int .i64 R.s.e, .int .i64 R.s.f, .int .i64 R.s.g, .int .i64 R.s.h, .int .i64 R.s.r, .int .i64 R.p, .int .i64 R.q] 36)) = wv at *
          obtain ⟨q0, q1, q2, q3, q4, q5, q6⟩ := RdK.at RK kq (by omega) _ hp
          simp only [Nat.zero_add] at q0 q1 q2 q3 q4 q5 q6
          have hb3 := World.block_lt_of_cell? (a := ⟨b3, kq * 7, none⟩) _ q0
          simp only at hb3
          have RK9 := Hid.mk RK
          have K : ∀ w' : World, Below wv.heap.size wv w' → (w'.cell? ⟨w11.heap.size, 0, none⟩ = some (.int .i64 0) ∧ w'.cell? ⟨w11.heap.size, 1, none⟩ = some (.slice ct KT dt) ∧ w'.cell? ⟨b3, kq * 7, none⟩ = some (.int .i64 p.f) ∧ w'.cell? ⟨b3, kq * 7 + 1, none⟩ = some (.int .i64 p.t) ∧ w'.cell? ⟨b3, kq * 7 + 2, none⟩ = some (.int .i64 p.r) ∧ w'.cell? ⟨b3, kq * 7 + 3, none⟩ = some (.int .i64 p.l) ∧ w'.cell? ⟨b3, kq * 7 + 4, none⟩ = some (.int .i64 p.u) ∧ w'.cell? ⟨b3, kq * 7 + 5, none⟩ = some (.int .i64 p.v) ∧ w'.cell? ⟨b3, kq * 7 + 6, none⟩ = some (.slice p.s p.m p.d)) := fun w' h => ⟨(VT.kept h).2.1 0 (by simp), (VT.kept h).2.1 1 (by simp), ((bcell h).1 _ _ hb3).trans q0, ((bcell h).1 _ _ hb3).trans q1, ((bcell h).1 _ _ hb3).trans q2, ((bcell h).1 _ _ hb3).trans q3, ((bcell h).1 _ _ hb3).trans q4, ((bcell h).1 _ _ hb3).trans q5, ((bcell h).1 _ _ hb3).trans q6⟩
          have K := Hid.mk K
          clear q0 q1 q2 q3 q4 q5 q6
          go_upto_region 20 with fail
          go_cut [13] (fun p wx => ∃ P9, p = .pointer (some ⟨P9, 0, none⟩) ∧ V wx P9 [.int .i64 C, .int .i64 A2, .int .i64 R.s.a, .int .i64 R.s.b, .int .i64 R.s.c, .int .i64 R.s.d, .int .i64 R.s.e, .int .i64 R.s.f, .int .i64 R.s.g, .int .i64 R.s.h, .int .i64 R.s.r, .int .i64 R.p, .int .i64 R.q] ∧ V wx (w11.heap.size) [.int .i64 0, .slice ct KT dt] ∧ V wx (w12.heap.size) [.int .i64 W, .slice cw KS dw] ∧ V wx (w31.heap.size) [.int .i64 C, .int .i64 A1, .int .i64 R.s.a, .int .i64 R.s.b, .int .i64 R.s.c, .int .i64 R.s.d, .int .i64 R.s.e, .int .i64 R.s.f, .int .i64 R.s.g, .int .i64 R.s.h, .int .i64 R.s.r, .int .i64 R.p, .int .i64 R.q] ∧ Below wo.heap.size wo wx ∧ Below wv.heap.size wv wx ∧ wv.heap.size ≤ P9)
          case first =>
            refine wp_region_held_drew (S := (fun w' => w'.cell? ⟨w11.heap.size, 0, none⟩ = some (.int .i64 0) ∧ w'.cell? ⟨w11.heap.size, 1, none⟩ = some (.slice ct KT dt) ∧ w'.cell? ⟨b3, kq * 7, none⟩ = some (.int .i64 p.f) ∧ w'.cell? ⟨b3, kq * 7 + 1, none⟩ = some (.int .i64 p.t) ∧ w'.cell? ⟨b3, kq * 7 + 2, none⟩ = some (.int .i64 p.r) ∧ w'.cell? ⟨b3, kq * 7 + 3, none⟩ = some (.int .i64 p.l) ∧ w'.cell? ⟨b3, kq * 7 + 4, none⟩ = some (.int .i64 p.u) ∧ w'.cell? ⟨b3, kq * 7 + 5, none⟩ = some (.int .i64 p.v) ∧ w'.cell? ⟨b3, kq * 7 + 6, none⟩ = some (.slice p.s p.m p.d))) (by kernel_rfl) (K.out _ (Below.refl _ _).drew) (fun hHeld => ?_)
            have bd : Below wv.heap.size wv wv.drew := (Below.refl _ _).drew
            generalize wv.drew = wd at *
            refine wpAnyH_take (i := 0) (oi := _) (v := ?vmk31u1) rfl (by kernel_rfl) (by kernel_rfl) (by kernel_rfl) (fun _ _ _ h => h) (Or.inl ⟨by rfl, ?hymk31u1⟩) hHeld ?restmk31u1
            case hymk31u1 => (intro w hSw; (try dsimp only at hSw); go_simp; first | done | with_reducible rfl)
            try simp only [Act.put, List.getElem_toArray, List.getElem_cons_zero, List.setIfInBounds_toArray, List.set_cons_zero, List.set_cons_succ]
            refine wpAnyH_take (i := 1) (oi := _) (v := ?vmk31u2) rfl (by kernel_rfl) (by kernel_rfl) (by kernel_rfl) (fun _ _ _ h => h) (Or.inl ⟨by rfl, ?hymk31u2⟩) hHeld ?restmk31u2
            case hymk31u2 => (intro w hSw; (try dsimp only at hSw); go_simp; first | done | with_reducible rfl)
            try simp only [Act.put, List.getElem_toArray, List.getElem_cons_zero, List.getElem_cons_succ, List.setIfInBounds_toArray, List.set_cons_zero, List.set_cons_succ]
            refine wpAnyH_take (i := 2) (oi := _) (v := ?vmk31u3) rfl (by kernel_rfl) (by kernel_rfl) (by kernel_rfl) (fun _ _ _ h => h) (Or.inl ⟨by rfl, ?hymk31u3⟩) hHeld ?restmk31u3
            case hymk31u3 => (intro w hSw; (try dsimp only at hSw); go_simp; first | done | with_reducible rfl)
            try simp only [Act.put, List.getElem_toArray, List.getElem_cons_zero, List.getElem_cons_succ, List.setIfInBounds_toArray, List.set_cons_zero, List.set_cons_succ]
            refine wpAnyH_take (i := 3) (oi := _) (v := ?vmk31u4) rfl (by kernel_rfl) (by kernel_rfl) (by kernel_rfl) (fun _ _ _ h => h) (Or.inl ⟨by rfl, ?hymk31u4⟩) hHeld ?restmk31u4
            case hymk31u4 => (intro w hSw; (try dsimp only at hSw); go_simp; first | done | with_reducible rfl)
            try simp only [Act.put, List.getElem_toArray, List.getElem_cons_zero, List.getElem_cons_succ, List.setIfInBounds_toArray, List.set_cons_zero, List.set_cons_succ]
            refine wpAnyH_take (i := 4) (oi := _) (v := ?vmk31u5) rfl (by kernel_rfl) (by kernel_rfl) (by kernel_rfl) (fun _ _ _ h => h) (Or.inl ⟨by rfl, ?hymk31u5⟩) hHeld ?restmk31u5
            case hymk31u5 => (intro w hSw; (try dsimp only at hSw); go_simp; first | done | with_reducible rfl)
            try simp only [Act.put, List.getElem_toArray, List.getElem_cons_zero, List.getElem_cons_succ, List.setIfInBounds_toArray, List.set_cons_zero, List.set_cons_succ]
            refine wpAnyH_take (i := 5) (oi := _) (v := ?vmk31u6) rfl (by kernel_rfl) (by kernel_rfl) (by kernel_rfl) (fun _ _ _ h => h) (Or.inl ⟨by rfl, ?hymk31u6⟩) hHeld ?restmk31u6
            case hymk31u6 => (intro w hSw; (try dsimp only at hSw); go_simp; first | done | with_reducible rfl)
            try simp only [Act.put, List.getElem_toArray, List.getElem_cons_zero, List.getElem_cons_succ, List.setIfInBounds_toArray, List.set_cons_zero, List.set_cons_succ]
            refine wpAnyH_ready (rs := [6, 7]) (by kernel_rfl) (by simp) ?_
            refine AllReadyH.cons (o := _) rfl (fun K0 hK0 => ?_) (AllReadyH.cons (o := _) rfl (fun K0 hK0 => ?_) AllReadyH.nil)
            · skip
              go_simp
              go_at_call 15
              refine (C2.out _ ((RT6.out.kept B).kept bd)).mono ?_
              rintro e wmk317 ⟨rfl, bmk317⟩
              refine hK0.out _ _ (K.out _ (thenB bd bmk317)) (fun hHeld => ?_)
              clear hK0 K0
              try simp only [Act.put, List.getElem_toArray, List.getElem_cons_zero, List.getElem_cons_succ, List.setIfInBounds_toArray, List.set_cons_zero, List.set_cons_succ]
              refine wpAnyH_ready (rs := [7]) (by kernel_rfl) (by simp) ?_
              refine AllReadyH.cons (o := _) rfl (fun K0 hK0 => ?_) AllReadyH.nil
              go_simp
              refine hK0.out _ _ (K.out _ (thenB (thenB bd bmk317) (belowA wmk317 (.cells #[.int .i64 0, .int .i64 0, .int .i64 0, .int .i64 0, .int .i64 0, .int .i64 0, .int .i64 0, .int .i64 0, .int .i64 0, .int .i64 0, .int .i64 0, .int .i64 0, .int .i64 0] 36)))) (fun hHeld => ?_)
              clear hK0 K0
              try simp only [Act.put, List.getElem_toArray, List.getElem_cons_zero, List.getElem_cons_succ, List.setIfInBounds_toArray, List.set_cons_zero, List.set_cons_succ]
              have VN : V (wmk317.alloc (.cells #[.int .i64 0, .int .i64 0, .int .i64 0, .int .i64 0, .int .i64 0, .int .i64 0, .int .i64 0, .int .i64 0, .int .i64 0, .int .i64 0, .int .i64 0, .int .i64 0, .int .i64 0] 36)) wmk317.heap.size [.int .i64 0, .int .i64 0, .int .i64 0, .int .i64 0, .int .i64 0, .int .i64 0, .int .i64 0, .int .i64 0, .int .i64 0, .int .i64 0, .int .i64 0, .int .i64 0, .int .i64 0] := V.new _ _ _
              have bqmk318 := belowA wmk317 (.cells #[.int .i64 0, .int .i64 0, .int .i64 0, .int .i64 0, .int .i64 0, .int .i64 0, .int .i64 0, .int .i64 0, .int .i64 0, .int .i64 0, .int .i64 0, .int .i64 0, .int .i64 0] 36)
              generalize wmk317.alloc (.cells #[.int .i64 0, .int .i64 0, .int .i64 0, .int .i64 0, .int .i64 0, .int .i64 0, .int .i64 0, .int .i64 0, .int .i64 0, .int .i64 0, .int .i64 0, .int .i64 0, .int .i64 0] 36) = wqmk318 at *
              refine wpAnyH_ready (rs := [8]) (by kernel_rfl) (by simp) ?_
              refine AllReadyH.cons (o := _) rfl (fun K0 hK0 => ?_) AllReadyH.nil
              rw [if_pos (by rfl)]
              have hT := VN.there
              have VF := VN.filled [.int .i64 C, .int .i64 A2, .int .i64 R.s.a, .int .i64 R.s.b, .int .i64 R.s.c, .int .i64 R.s.d, .int .i64 R.s.e, .int .i64 R.s.f, .int .i64 R.s.g, .int .i64 R.s.h, .int .i64 R.s.r, .int .i64 R.p, .int .i64 R.q] rfl
              have hle := ((thenB bd bmk317)).size
              have bF := belowCells ((thenB (thenB bd bmk317) bqmk318)) hle 0 [.int .i64 C, .int .i64 A2, .int .i64 R.s.a, .int .i64 R.s.b, .int .i64 R.s.c, .int .i64 R.s.d, .int .i64 R.s.e, .int .i64 R.s.f, .int .i64 R.s.g, .int .i64 R.s.h, .int .i64 R.s.r, .int .i64 R.p, .int .i64 R.q]
              refine wp_store_mid _ _ _ rfl (wmk317.heap.size) 0 #[.int .i64 C, .int .i64 A2, .int .i64 R.s.a, .int .i64 R.s.b, .int .i64 R.s.c, .int .i64 R.s.d, .int .i64 R.s.e, .int .i64 R.s.f, .int .i64 R.s.g, .int .i64 R.s.h, .int .i64 R.s.r, .int .i64 R.p, .int .i64 R.q] rfl rfl hT (by kernel_rfl) (by kernel_rfl) ?_
              refine hK0.out _ _ (K.out _ bF) (fun hHeld => ?_)
              clear hK0 K0
              refine wpAnyH_done (by kernel_rfl) ?_ _
              go_wp2_with fail
              go_meet
              exact ⟨wmk317.heap.size, rfl, VF, VT.kept bF, VS.kept bF, VW.kept bF, thenB B bF, bF, hle⟩
            · skip
              go_simp
              refine hK0.out _ _ (K.out _ (thenB bd (belowA wd (.cells #[.int .i64 0, .int .i64 0, .int .i64 0, .int .i64 0, .int .i64 0, .int .i64 0, .int .i64 0, .int .i64 0, .int .i64 0, .int .i64 0, .int .i64 0, .int .i64 0, .int .i64 0] 36)))) (fun hHeld => ?_)
              clear hK0 K0
              try simp only [Act.put, List.getElem_toArray, List.getElem_cons_zero, List.getElem_cons_succ, List.setIfInBounds_toArray, List.set_cons_zero, List.set_cons_succ]
              have VN : V (wd.alloc (.cells #[.int .i64 0, .int .i64 0, .int .i64 0, .int .i64 0, .int .i64 0, .int .i64 0, .int .i64 0, .int .i64 0, .int .i64 0, .int .i64 0, .int .i64 0, .int .i64 0, .int .i64 0] 36)) wd.heap.size [.int .i64 0, .int .i64 0, .int .i64 0, .int .i64 0, .int .i64 0, .int .i64 0, .int .i64 0, .int .i64 0, .int .i64 0, .int .i64 0, .int .i64 0, .int .i64 0, .int .i64 0] := V.new _ _ _
              have bqmk319 := belowA wd (.cells #[.int .i64 0, .int .i64 0, .int .i64 0, .int .i64 0, .int .i64 0, .int .i64 0, .int .i64 0, .int .i64 0, .int .i64 0, .int .i64 0, .int .i64 0, .int .i64 0, .int .i64 0] 36)
              generalize wd.alloc (.cells #[.int .i64 0, .int .i64 0, .int .i64 0, .int .i64 0, .int .i64 0, .int .i64 0, .int .i64 0, .int .i64 0, .int .i64 0, .int .i64 0, .int .i64 0, .int .i64 0, .int .i64 0] 36) = wqmk319 at *
              refine wpAnyH_ready (rs := [6]) (by kernel_rfl) (by simp) ?_
              refine AllReadyH.cons (o := _) rfl (fun K0 hK0 => ?_) AllReadyH.nil
              go_simp
              go_at_call 15
              refine (C2.out _ ((RT6.out.kept B).kept (thenB bd bqmk319))).mono ?_
              rintro e wmk3110 ⟨rfl, bmk3110⟩
              replace VN := VN.kept bmk3110
              refine hK0.out _ _ (K.out _ (thenB (thenB bd bqmk319) bmk3110)) (fun hHeld => ?_)
              clear hK0 K0
              try simp only [Act.put, List.getElem_toArray, List.getElem_cons_zero, List.getElem_cons_succ, List.setIfInBounds_toArray, List.set_cons_zero, List.set_cons_succ]
              refine wpAnyH_ready (rs := [8]) (by kernel_rfl) (by simp) ?_
              refine AllReadyH.cons (o := _) rfl (fun K0 hK0 => ?_) AllReadyH.nil
              rw [if_pos (by rfl)]
              have hT := VN.there
              have VF := VN.filled [.int .i64 C, .int .i64 A2, .int .i64 R.s.a, .int .i64 R.s.b, .int .i64 R.s.c, .int .i64 R.s.d, .int .i64 R.s.e, .int .i64 R.s.f, .int .i64 R.s.g, .int .i64 R.s.h, .int .i64 R.s.r, .int .i64 R.p, .int .i64 R.q] rfl
              have hle := (bd).size
              have bF := belowCells ((thenB (thenB bd bqmk319) bmk3110)) hle 0 [.int .i64 C, .int .i64 A2, .int .i64 R.s.a, .int .i64 R.s.b, .int .i64 R.s.c, .int .i64 R.s.d, .int .i64 R.s.e, .int .i64 R.s.f, .int .i64 R.s.g, .int .i64 R.s.h, .int .i64 R.s.r, .int .i64 R.p, .int .i64 R.q]
              refine wp_store_mid _ _ _ rfl (wd.heap.size) 0 #[.int .i64 C, .int .i64 A2, .int .i64 R.s.a, .int .i64 R.s.b, .int .i64 R.s.c, .int .i64 R.s.d, .int .i64 R.s.e, .int .i64 R.s.f, .int .i64 R.s.g, .int .i64 R.s.h, .int .i64 R.s.r, .int .i64 R.p, .int .i64 R.q] rfl rfl hT (by kernel_rfl) (by kernel_rfl) ?_
              refine hK0.out _ _ (K.out _ bF) (fun hHeld => ?_)
              clear hK0 K0
              refine wpAnyH_done (by kernel_rfl) ?_ _
              go_wp2_with fail
              go_meet
              exact ⟨wd.heap.size, rfl, VF, VT.kept bF, VS.kept bF, VW.kept bF, thenB B bF, bF, hle⟩
          case rest =>
            clear VT VS VW B K
            obtain ⟨P9, rfl, VZ, VT, VS, VW, B, BQ, hP9⟩ := hcut
            have RK := RK9.out.kept BQ
            obtain ⟨s_VT, f_VT, z_VT⟩ := VT.open
            obtain ⟨s_VS, f_VS, z_VS⟩ := VS.open
            obtain ⟨s_VW, f_VW, z_VW⟩ := VW.open
            obtain ⟨s_VZ, f_VZ, z_VZ⟩ := VZ.open
            have Bo := B
            go_upto_region 23 with fail
            clear s_VT f_VT z_VT s_VS f_VS z_VS s_VW f_VW z_VW s_VZ f_VZ z_VZ
            by_cases hW : W = 0
            · skip
              obtain ⟨e1, e2, _⟩ := HSW.out hW p
              rw [e1, e2] at C4
              generalize asC xs p.f p.t p.r p.l p.u p.v p.m = z1 at *
              generalize afV xs p.f p.t p.r p.l p.u p.v p.m = z2 at *
              clear e1 e2 HSW
              subst hW
              obtain ⟨q0, q1, q2, q3, q4, q5, q6⟩ := RdK.at RK kq (by omega) _ hp
              simp only [Nat.zero_add] at q0 q1 q2 q3 q4 q5 q6
              have hb3 := World.block_lt_of_cell? (a := ⟨b3, kq * 7, none⟩) _ q0
              simp only at hb3
              have K : ∀ w' : World, Below wc.heap.size wc w' → (w'.cell? ⟨w12.heap.size, 0, none⟩ = some (.int .i64 0) ∧ w'.cell? ⟨w12.heap.size, 1, none⟩ = some (.slice cw KS dw) ∧ w'.cell? ⟨b3, kq * 7, none⟩ = some (.int .i64 p.f) ∧ w'.cell? ⟨b3, kq * 7 + 1, none⟩ = some (.int .i64 p.t) ∧ w'.cell? ⟨b3, kq * 7 + 2, none⟩ = some (.int .i64 p.r) ∧ w'.cell? ⟨b3, kq * 7 + 3, none⟩ = some (.int .i64 p.l) ∧ w'.cell? ⟨b3, kq * 7 + 4, none⟩ = some (.int .i64 p.u) ∧ w'.cell? ⟨b3, kq * 7 + 5, none⟩ = some (.int .i64 p.v) ∧ w'.cell? ⟨b3, kq * 7 + 6, none⟩ = some (.slice p.s p.m p.d)) := fun w' h => ⟨(VS.kept h).2.1 0 (by simp), (VS.kept h).2.1 1 (by simp), ((bcell h).1 _ _ hb3).trans q0, ((bcell h).1 _ _ hb3).trans q1, ((bcell h).1 _ _ hb3).trans q2, ((bcell h).1 _ _ hb3).trans q3, ((bcell h).1 _ _ hb3).trans q4, ((bcell h).1 _ _ hb3).trans q5, ((bcell h).1 _ _ hb3).trans q6⟩
              have K := Hid.mk K
              clear q0 q1 q2 q3 q4 q5 q6
              refine wp_region_held_drew (S := (fun w' => w'.cell? ⟨w12.heap.size, 0, none⟩ = some (.int .i64 0) ∧ w'.cell? ⟨w12.heap.size, 1, none⟩ = some (.slice cw KS dw) ∧ w'.cell? ⟨b3, kq * 7, none⟩ = some (.int .i64 p.f) ∧ w'.cell? ⟨b3, kq * 7 + 1, none⟩ = some (.int .i64 p.t) ∧ w'.cell? ⟨b3, kq * 7 + 2, none⟩ = some (.int .i64 p.r) ∧ w'.cell? ⟨b3, kq * 7 + 3, none⟩ = some (.int .i64 p.l) ∧ w'.cell? ⟨b3, kq * 7 + 4, none⟩ = some (.int .i64 p.u) ∧ w'.cell? ⟨b3, kq * 7 + 5, none⟩ = some (.int .i64 p.v) ∧ w'.cell? ⟨b3, kq * 7 + 6, none⟩ = some (.slice p.s p.m p.d))) (by kernel_rfl) (K.out _ (Below.refl _ _).drew) (fun hHeld => ?_)
              refine wpAnyH_take (i := 0) (oi := _) (v := ?vz61u1) rfl (by kernel_rfl) (by kernel_rfl) (by kernel_rfl) (fun _ _ _ h => h) (Or.inl ⟨by rfl, ?hyz61u1⟩) hHeld ?restz61u1
              case hyz61u1 => (intro w hSw; (try dsimp only at hSw); go_simp; first | done | with_reducible rfl)
              try simp only [Act.put, List.getElem_toArray, List.getElem_cons_zero, List.setIfInBounds_toArray, List.set_cons_zero, List.set_cons_succ]
              refine wpAnyH_take (i := 1) (oi := _) (v := ?vz61u2) rfl (by kernel_rfl) (by kernel_rfl) (by kernel_rfl) (fun _ _ _ h => h) (Or.inl ⟨by rfl, ?hyz61u2⟩) hHeld ?restz61u2
              case hyz61u2 => (intro w hSw; (try dsimp only at hSw); go_simp; first | done | with_reducible rfl)
              try simp only [Act.put, List.getElem_toArray, List.getElem_cons_zero, List.getElem_cons_succ, List.setIfInBounds_toArray, List.set_cons_zero, List.set_cons_succ]
              refine wpAnyH_take (i := 2) (oi := _) (v := ?vz61u3) rfl (by kernel_rfl) (by kernel_rfl) (by kernel_rfl) (fun _ _ _ h => h) (Or.inl ⟨by rfl, ?hyz61u3⟩) hHeld ?restz61u3
              case hyz61u3 => (intro w hSw; (try dsimp only at hSw); go_simp; first | done | with_reducible rfl)
              try simp only [Act.put, List.getElem_toArray, List.getElem_cons_zero, List.getElem_cons_succ, List.setIfInBounds_toArray, List.set_cons_zero, List.set_cons_succ]
              refine wpAnyH_take (i := 3) (oi := _) (v := ?vz61u4) rfl (by kernel_rfl) (by kernel_rfl) (by kernel_rfl) (fun _ _ _ h => h) (Or.inl ⟨by rfl, ?hyz61u4⟩) hHeld ?restz61u4
              case hyz61u4 => (intro w hSw; (try dsimp only at hSw); go_simp; first | done | with_reducible rfl)
              try simp only [Act.put, List.getElem_toArray, List.getElem_cons_zero, List.getElem_cons_succ, List.setIfInBounds_toArray, List.set_cons_zero, List.set_cons_succ]
              refine wpAnyH_take (i := 4) (oi := _) (v := ?vz61u5) rfl (by kernel_rfl) (by kernel_rfl) (by kernel_rfl) (fun _ _ _ h => h) (Or.inl ⟨by rfl, ?hyz61u5⟩) hHeld ?restz61u5
              case hyz61u5 => (intro w hSw; (try dsimp only at hSw); go_simp; first | done | with_reducible rfl)
              try simp only [Act.put, List.getElem_toArray, List.getElem_cons_zero, List.getElem_cons_succ, List.setIfInBounds_toArray, List.set_cons_zero, List.set_cons_succ]
              refine wpAnyH_take (i := 5) (oi := _) (v := ?vz61u6) rfl (by kernel_rfl) (by kernel_rfl) (by kernel_rfl) (fun _ _ _ h => h) (Or.inl ⟨by rfl, ?hyz61u6⟩) hHeld ?restz61u6
              case hyz61u6 => (intro w hSw; (try dsimp only at hSw); go_simp; first | done | with_reducible rfl)
              try simp only [Act.put, List.getElem_toArray, List.getElem_cons_zero, List.getElem_cons_succ, List.setIfInBounds_toArray, List.set_cons_zero, List.set_cons_succ]
              refine wpAnyH_take (i := 6) (oi := _) (v := ?vz61u7) rfl (by kernel_rfl) (by kernel_rfl) (by kernel_rfl) (fun _ _ _ h => h) (Or.inl ⟨by rfl, ?hyz61u7⟩) hHeld ?restz61u7
              case hyz61u7 => (intro w hSw; (try dsimp only at hSw); go_simp; first | done | with_reducible rfl)
              try simp only [Act.put, List.getElem_toArray, List.getElem_cons_zero, List.getElem_cons_succ, List.setIfInBounds_toArray, List.set_cons_zero, List.set_cons_succ]
              refine wpAnyH_take (i := 7) (oi := _) (v := ?vz61u8) rfl (by kernel_rfl) (by kernel_rfl) (by kernel_rfl) (fun _ _ _ h => h) (Or.inl ⟨by rfl, ?hyz61u8⟩) hHeld ?restz61u8
              case hyz61u8 => (intro w hSw; (try dsimp only at hSw); go_simp; first | done | with_reducible rfl)
              try simp only [Act.put, List.getElem_toArray, List.getElem_cons_zero, List.getElem_cons_succ, List.setIfInBounds_toArray, List.set_cons_zero, List.set_cons_succ]
              refine wpAnyH_take (i := 8) (oi := _) (v := ?vz61u9) rfl (by kernel_rfl) (by kernel_rfl) (by kernel_rfl) (fun _ _ _ h => h) (Or.inl ⟨by rfl, ?hyz61u9⟩) hHeld ?restz61u9
              case hyz61u9 => (intro w hSw; (try dsimp only at hSw); go_simp; first | done | with_reducible rfl)
              try simp only [Act.put, List.getElem_toArray, List.getElem_cons_zero, List.getElem_cons_succ, List.setIfInBounds_toArray, List.set_cons_zero, List.set_cons_succ]
              refine wpAnyH_take (i := 9) (oi := _) (v := ?vz61u10) rfl (by kernel_rfl) (by kernel_rfl) (by kernel_rfl) (fun _ _ _ h => h) (Or.inl ⟨by rfl, ?hyz61u10⟩) hHeld ?restz61u10
              case hyz61u10 => (intro w hSw; (try dsimp only at hSw); go_simp; first | done | with_reducible rfl)
              try simp only [Act.put, List.getElem_toArray, List.getElem_cons_zero, List.getElem_cons_succ, List.setIfInBounds_toArray, List.set_cons_zero, List.set_cons_succ]
              refine wpAnyH_take (i := 11) (oi := _) (v := ?vz61u11) rfl (by kernel_rfl) (by kernel_rfl) (by kernel_rfl) (fun _ _ _ h => h) (Or.inl ⟨by rfl, ?hyz61u11⟩) hHeld ?restz61u11
              case hyz61u11 => (intro w hSw; (try dsimp only at hSw); go_simp; first | done | with_reducible rfl)
              try simp only [Act.put, List.getElem_toArray, List.getElem_cons_zero, List.getElem_cons_succ, List.setIfInBounds_toArray, List.set_cons_zero, List.set_cons_succ]
              refine wpAnyH_take (i := 12) (oi := _) (v := ?vz61u12) rfl (by kernel_rfl) (by kernel_rfl) (by kernel_rfl) (fun _ _ _ h => h) (Or.inl ⟨by rfl, ?hyz61u12⟩) hHeld ?restz61u12
              case hyz61u12 => (intro w hSw; (try dsimp only at hSw); go_simp; first | done | with_reducible rfl)
              try simp only [Act.put, List.getElem_toArray, List.getElem_cons_zero, List.getElem_cons_succ, List.setIfInBounds_toArray, List.set_cons_zero, List.set_cons_succ]
              refine wpAnyH_take (i := 13) (oi := _) (v := ?vz61u13) rfl (by kernel_rfl) (by kernel_rfl) (by kernel_rfl) (fun _ _ _ h => h) (Or.inl ⟨by rfl, ?hyz61u13⟩) hHeld ?restz61u13
              case hyz61u13 => (intro w hSw; (try dsimp only at hSw); go_simp; first | done | with_reducible rfl)
              try simp only [Act.put, List.getElem_toArray, List.getElem_cons_zero, List.getElem_cons_succ, List.setIfInBounds_toArray, List.set_cons_zero, List.set_cons_succ]
              refine wpAnyH_take (i := 14) (oi := _) (v := ?vz61u14) rfl (by kernel_rfl) (by kernel_rfl) (by kernel_rfl) (fun _ _ _ h => h) (Or.inl ⟨by rfl, ?hyz61u14⟩) hHeld ?restz61u14
              case hyz61u14 => (intro w hSw; (try dsimp only at hSw); go_simp; first | done | with_reducible rfl)
              try simp only [Act.put, List.getElem_toArray, List.getElem_cons_zero, List.getElem_cons_succ, List.setIfInBounds_toArray, List.set_cons_zero, List.set_cons_succ]
              refine wpAnyH_take (i := 15) (oi := _) (v := ?vz61u15) rfl (by kernel_rfl) (by kernel_rfl) (by kernel_rfl) (fun _ _ _ h => h) (Or.inl ⟨by rfl, ?hyz61u15⟩) hHeld ?restz61u15
              case hyz61u15 => (intro w hSw; (try dsimp only at hSw); go_simp; first | done | with_reducible rfl)
              try simp only [Act.put, List.getElem_toArray, List.getElem_cons_zero, List.getElem_cons_succ, List.setIfInBounds_toArray, List.set_cons_zero, List.set_cons_succ]
              refine wpAnyH_ready (rs := [10]) (by kernel_rfl) (by simp) ?_
              refine AllReadyH.cons (o := _) rfl (fun K0 hK0 => ?_) AllReadyH.nil
              go_simp
              go_at_call 16
              refine (C4.out _ ((RS6.out.kept B).kept (Below.refl _ _).drew)).mono ?_
              rintro e wz61v16 ⟨rfl, bz61v16⟩
              refine hK0.out _ _ (K.out _ (thenB (Below.refl _ _).drew bz61v16)) (fun hHeld => ?_)
              clear hK0 K0
              try simp only [Act.put, List.getElem_toArray, List.getElem_cons_zero, List.getElem_cons_succ, List.setIfInBounds_toArray, List.set_cons_zero, List.set_cons_succ]
              refine wpAnyH_ready (rs := [16]) (by kernel_rfl) (by simp) ?_
              refine AllReadyH.cons (o := _) rfl (fun K0 hK0 => ?_) AllReadyH.nil
              go_simp
              go_at_call 16
              refine (C3.out _ ((RX6.out.kept B).kept (thenB (Below.refl _ _).drew bz61v16))).mono ?_
              rintro e wz61v17 ⟨rfl, bz61v17⟩
              refine hK0.out _ _ (K.out _ (thenB (thenB (Below.refl _ _).drew bz61v16) bz61v17)) (fun hHeld => ?_)
              clear hK0 K0
              try simp only [Act.put, List.getElem_toArray, List.getElem_cons_zero, List.getElem_cons_succ, List.setIfInBounds_toArray, List.set_cons_zero, List.set_cons_succ]
              refine wpAnyH_take (i := 17) (oi := _) (v := ?vz61u18) rfl (by kernel_rfl) (by kernel_rfl) (by kernel_rfl) (fun _ _ _ h => h) (Or.inl ⟨by rfl, ?hyz61u18⟩) hHeld ?restz61u18
              case hyz61u18 => (intro w hSw; (try dsimp only at hSw); go_simp; first | done | with_reducible rfl)
              try simp only [Act.put, List.getElem_toArray, List.getElem_cons_zero, List.getElem_cons_succ, List.setIfInBounds_toArray, List.set_cons_zero, List.set_cons_succ]
              refine wpAnyH_take (i := 18) (oi := _) (v := ?vz61u19) rfl (by kernel_rfl) (by kernel_rfl) (by kernel_rfl) (fun _ _ _ h => h) (Or.inl ⟨by rfl, ?hyz61u19⟩) hHeld ?restz61u19
              case hyz61u19 => (intro w hSw; (try dsimp only at hSw); go_simp; first | done | with_reducible rfl)
              try simp only [Act.put, List.getElem_toArray, List.getElem_cons_zero, List.getElem_cons_succ, List.setIfInBounds_toArray, List.set_cons_zero, List.set_cons_succ]
              refine wpAnyH_done (by kernel_rfl) ?_ _
              clear K hHeld
              replace VT := VT.kept (thenB (thenB (Below.refl _ _).drew bz61v16) bz61v17)
              replace VS := VS.kept (thenB (thenB (Below.refl _ _).drew bz61v16) bz61v17)
              replace VW := VW.kept (thenB (thenB (Below.refl _ _).drew bz61v16) bz61v17)
              replace VZ := VZ.kept (thenB (thenB (Below.refl _ _).drew bz61v16) bz61v17)
              replace RK := RK.kept (thenB (thenB (Below.refl _ _).drew bz61v16) bz61v17)
              replace B := thenB B (thenB (thenB (Below.refl _ _).drew bz61v16) bz61v17)
              have Sz61 := ((thenB (thenB (Below.refl _ _).drew bz61v16) bz61v17)).size
              clear bz61v16 bz61v17
              obtain ⟨s_VT, f_VT, z_VT⟩ := VT.open
              obtain ⟨s_VS, f_VS, z_VS⟩ := VS.open
              obtain ⟨s_VW, f_VW, z_VW⟩ := VW.open
              obtain ⟨s_VZ, f_VZ, z_VZ⟩ := VZ.open
              have Bo := B
              clear s_VT f_VT z_VT s_VS f_VS z_VS s_VW f_VW z_VW s_VZ f_VZ z_VZ
              replace B := Hid.mk B
              clear Bo VT VS VW VZ RK
              go_wp2
              go_roundw
              case rel => exact ⟨kq + 1, by omega, by go_num, B.out⟩
              case measure => simp [intOf]; omega
            · skip
              have hW2 : (W == 0) = false := by simpa using hW
              clear HSW
              have K : ∀ w' : World, Below wc.heap.size wc w' → (w'.cell? ⟨w12.heap.size, 0, none⟩ = some (.int .i64 W) ∧ w'.cell? ⟨w12.heap.size, 1, none⟩ = some (.slice cw KS dw)) := fun w' h => ⟨(VS.kept h).2.1 0 (by simp), (VS.kept h).2.1 1 (by simp)⟩
              have K := Hid.mk K
              refine wp_region_held_drew (S := (fun w' => w'.cell? ⟨w12.heap.size, 0, none⟩ = some (.int .i64 W) ∧ w'.cell? ⟨w12.heap.size, 1, none⟩ = some (.slice cw KS dw))) (by kernel_rfl) (K.out _ (Below.refl _ _).drew) (fun hHeld => ?_)
              refine wpAnyH_take (i := 0) (oi := _) (v := ?vz81u1) rfl (by kernel_rfl) (by kernel_rfl) (by kernel_rfl) (fun _ _ _ h => h) (Or.inl ⟨by rfl, ?hyz81u1⟩) hHeld ?restz81u1
              case hyz81u1 => (intro w hSw; (try dsimp only at hSw); go_simp; first | done | with_reducible rfl)
              try simp only [Act.put, List.getElem_toArray, List.getElem_cons_zero, List.setIfInBounds_toArray, List.set_cons_zero, List.set_cons_succ]
              refine wpAnyH_take (i := 1) (oi := _) (v := ?vz81u2) rfl (by kernel_rfl) (by kernel_rfl) (by kernel_rfl) (fun _ _ _ h => h) (Or.inl ⟨by rfl, ?hyz81u2⟩) hHeld ?restz81u2
              case hyz81u2 => (intro w hSw; (try dsimp only at hSw); go_simp; first | done | with_reducible rfl)
              try simp only [Act.put, List.getElem_toArray, List.getElem_cons_zero, List.getElem_cons_succ, List.setIfInBounds_toArray, List.set_cons_zero, List.set_cons_succ]
              refine wpAnyH_take (i := 2) (oi := _) (v := ?vz81u3) rfl (by kernel_rfl) (by kernel_rfl) (by kernel_rfl) (fun _ _ _ h => h) (Or.inl ⟨by rfl, ?hyz81u3⟩) hHeld ?restz81u3
              case hyz81u3 => (intro w hSw; (try dsimp only at hSw); go_simp; first | done | with_reducible rfl)
              try simp only [Act.put, List.getElem_toArray, List.getElem_cons_zero, List.getElem_cons_succ, List.setIfInBounds_toArray, List.set_cons_zero, List.set_cons_succ]
              refine wpAnyH_take (i := 3) (oi := _) (v := ?vz81u4) rfl (by kernel_rfl) (by kernel_rfl) (by kernel_rfl) (fun _ _ _ h => h) (Or.inl ⟨by rfl, ?hyz81u4⟩) hHeld ?restz81u4
              case hyz81u4 => (intro w hSw; (try dsimp only at hSw); go_simp; first | done | with_reducible rfl)
              try simp only [Act.put, List.getElem_toArray, List.getElem_cons_zero, List.getElem_cons_succ, List.setIfInBounds_toArray, List.set_cons_zero, List.set_cons_succ]
              refine wpAnyH_take (i := 4) (oi := _) (v := undef) rfl (by kernel_rfl) (by kernel_rfl) (by kernel_rfl) (fun _ _ _ h => h) (Or.inr ⟨by rfl, rfl⟩) hHeld ?_
              try simp only [Act.put, List.getElem_toArray, List.getElem_cons_zero, List.getElem_cons_succ, List.setIfInBounds_toArray, List.set_cons_zero, List.set_cons_succ]
              refine wpAnyH_take (i := 5) (oi := _) (v := undef) rfl (by kernel_rfl) (by kernel_rfl) (by kernel_rfl) (fun _ _ _ h => h) (Or.inr ⟨by rfl, rfl⟩) hHeld ?_
              try simp only [Act.put, List.getElem_toArray, List.getElem_cons_zero, List.getElem_cons_succ, List.setIfInBounds_toArray, List.set_cons_zero, List.set_cons_succ]
              refine wpAnyH_take (i := 6) (oi := _) (v := undef) rfl (by kernel_rfl) (by kernel_rfl) (by kernel_rfl) (fun _ _ _ h => h) (Or.inr ⟨by rfl, rfl⟩) hHeld ?_
              try simp only [Act.put, List.getElem_toArray, List.getElem_cons_zero, List.getElem_cons_succ, List.setIfInBounds_toArray, List.set_cons_zero, List.set_cons_succ]
              refine wpAnyH_take (i := 7) (oi := _) (v := undef) rfl (by kernel_rfl) (by kernel_rfl) (by kernel_rfl) (fun _ _ _ h => h) (Or.inr ⟨by rfl, rfl⟩) hHeld ?_
              try simp only [Act.put, List.getElem_toArray, List.getElem_cons_zero, List.getElem_cons_succ, List.setIfInBounds_toArray, List.set_cons_zero, List.set_cons_succ]
              refine wpAnyH_take (i := 8) (oi := _) (v := undef) rfl (by kernel_rfl) (by kernel_rfl) (by kernel_rfl) (fun _ _ _ h => h) (Or.inr ⟨by rfl, rfl⟩) hHeld ?_
              try simp only [Act.put, List.getElem_toArray, List.getElem_cons_zero, List.getElem_cons_succ, List.setIfInBounds_toArray, List.set_cons_zero, List.set_cons_succ]
              refine wpAnyH_take (i := 9) (oi := _) (v := undef) rfl (by kernel_rfl) (by kernel_rfl) (by kernel_rfl) (fun _ _ _ h => h) (Or.inr ⟨by rfl, rfl⟩) hHeld ?_
              try simp only [Act.put, List.getElem_toArray, List.getElem_cons_zero, List.getElem_cons_succ, List.setIfInBounds_toArray, List.set_cons_zero, List.set_cons_succ]
              refine wpAnyH_take (i := 10) (oi := _) (v := undef) rfl (by kernel_rfl) (by kernel_rfl) (by kernel_rfl) (fun _ _ _ h => h) (Or.inr ⟨by rfl, rfl⟩) hHeld ?_
              try simp only [Act.put, List.getElem_toArray, List.getElem_cons_zero, List.getElem_cons_succ, List.setIfInBounds_toArray, List.set_cons_zero, List.set_cons_succ]
              refine wpAnyH_take (i := 11) (oi := _) (v := undef) rfl (by kernel_rfl) (by kernel_rfl) (by kernel_rfl) (fun _ _ _ h => h) (Or.inr ⟨by rfl, rfl⟩) hHeld ?_
              try simp only [Act.put, List.getElem_toArray, List.getElem_cons_zero, List.getElem_cons_succ, List.setIfInBounds_toArray, List.set_cons_zero, List.set_cons_succ]
              refine wpAnyH_take (i := 12) (oi := _) (v := undef) rfl (by kernel_rfl) (by kernel_rfl) (by kernel_rfl) (fun _ _ _ h => h) (Or.inr ⟨by rfl, rfl⟩) hHeld ?_
              try simp only [Act.put, List.getElem_toArray, List.getElem_cons_zero, List.getElem_cons_succ, List.setIfInBounds_toArray, List.set_cons_zero, List.set_cons_succ]
              refine wpAnyH_take (i := 13) (oi := _) (v := undef) rfl (by kernel_rfl) (by kernel_rfl) (by kernel_rfl) (fun _ _ _ h => h) (Or.inr ⟨by rfl, rfl⟩) hHeld ?_
              try simp only [Act.put, List.getElem_toArray, List.getElem_cons_zero, List.getElem_cons_succ, List.setIfInBounds_toArray, List.set_cons_zero, List.set_cons_succ]
              refine wpAnyH_take (i := 14) (oi := _) (v := undef) rfl (by kernel_rfl) (by kernel_rfl) (by kernel_rfl) (fun _ _ _ h => h) (Or.inr ⟨by rfl, rfl⟩) hHeld ?_
              try simp only [Act.put, List.getElem_toArray, List.getElem_cons_zero, List.getElem_cons_succ, List.setIfInBounds_toArray, List.set_cons_zero, List.set_cons_succ]
              refine wpAnyH_take (i := 15) (oi := _) (v := undef) rfl (by kernel_rfl) (by kernel_rfl) (by kernel_rfl) (fun _ _ _ h => h) (Or.inr ⟨by rfl, rfl⟩) hHeld ?_
              try simp only [Act.put, List.getElem_toArray, List.getElem_cons_zero, List.getElem_cons_succ, List.setIfInBounds_toArray, List.set_cons_zero, List.set_cons_succ]
              refine wpAnyH_take (i := 16) (oi := _) (v := undef) rfl (by kernel_rfl) (by kernel_rfl) (by kernel_rfl) (fun _ _ _ h => h) (Or.inr ⟨by rfl, rfl⟩) hHeld ?_
              try simp only [Act.put, List.getElem_toArray, List.getElem_cons_zero, List.getElem_cons_succ, List.setIfInBounds_toArray, List.set_cons_zero, List.set_cons_succ]
              refine wpAnyH_take (i := 17) (oi := _) (v := undef) rfl (by kernel_rfl) (by kernel_rfl) (by kernel_rfl) (fun _ _ _ h => h) (Or.inr ⟨by rfl, rfl⟩) hHeld ?_
              try simp only [Act.put, List.getElem_toArray, List.getElem_cons_zero, List.getElem_cons_succ, List.setIfInBounds_toArray, List.set_cons_zero, List.set_cons_succ]
              refine wpAnyH_take (i := 18) (oi := _) (v := ?vz81u5) rfl (by kernel_rfl) (by kernel_rfl) (by kernel_rfl) (fun _ _ _ h => h) (Or.inl ⟨by rfl, ?hyz81u5⟩) hHeld ?restz81u5
              case hyz81u5 => (intro w hSw; (try dsimp only at hSw); go_simp; first | done | with_reducible rfl)
              try simp only [Act.put, List.getElem_toArray, List.getElem_cons_zero, List.getElem_cons_succ, List.setIfInBounds_toArray, List.set_cons_zero, List.set_cons_succ]
              refine wpAnyH_done (by kernel_rfl) ?_ _
              have bdr : Below wc.heap.size wc (wc.drew) := (Below.refl _ _).drew
              clear K hHeld
              replace VT := VT.kept bdr
              replace VS := VS.kept bdr
              replace VW := VW.kept bdr
              replace VZ := VZ.kept bdr
              replace RK := RK.kept bdr
              replace B := thenB B bdr
              clear bdr
              obtain ⟨s_VT, f_VT, z_VT⟩ := VT.open
              obtain ⟨s_VS, f_VS, z_VS⟩ := VS.open
              obtain ⟨s_VW, f_VW, z_VW⟩ := VW.open
              obtain ⟨s_VZ, f_VZ, z_VZ⟩ := VZ.open
              have Bo := B
              clear s_VT f_VT z_VT s_VS f_VS z_VS s_VW f_VW z_VW s_VZ f_VZ z_VZ
              replace B := Hid.mk B
              clear Bo VT VS VW VZ RK
              go_wp2
              go_roundw
              case rel => exact ⟨kq + 1, by omega, by go_num, B.out⟩
              case measure => simp [intOf]; omega
        · obtain rfl : kq = x + 1 := by omega
          have hzz : ¬ ((x + 1 : Nat) : Int) < (x : Int) + 1 := by omega
          have C9 := Hid.mk (CPF.out ct dt)
          rw [HPF.out] at C9
          have VT := VT6.out.kept B
          obtain ⟨s_VT, f_VT, z_VT⟩ := VT.open
          have Bo := B
          go_wp2_with fail
          refine (C9.out _ (RT6.out.kept B)).mono ?_
          rintro e w91 ⟨rfl, b91⟩
          clear s_VT f_VT z_VT
          have S91 := b91.size
          replace VT := VT.kept b91
          replace B := thenB B b91
          clear b91
          obtain ⟨s_VT, f_VT, z_VT⟩ := VT.open
          have Bo := B
          go_wp2
          go_ret
          exact ⟨rfl, thenB B6.out Bo⟩

end Go.Proofs.YtngkahchhioncaaDoor
