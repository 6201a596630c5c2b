/- The law on a term moved. -/
import Derived.Test.YthjaehcfakjemaaDoorFmk
import Derived.Test.YthjaehcfakjemaaDoorFmf
import Derived.Test.YthjaehcfakjemaaDoorFmc
import Derived.Test.YthjaehcfakjemaaDoorFmd
import Derived.Test.YthjaehcfakjemaaDoorTxF
import Derived.Test.YthjaehcfakjemaaDoorTmQ
import Derived.Test.YthjaehcfakjemaaDoorFill
import Derived.Deep.DeepCutAuto
namespace Go.Proofs.YthjaehcfakjemaaDoor
open Go.RowKit

theorem eqTxt (k : Int) (s : ByteArray) (w : World) : (Op.equalIn 10000 33 (.agg #[.int .i64 k, .string s]) (.agg #[.int .i64 k, .string s])).run Tryd.prog w = .ok true w := by
  have u3 := Tryd.underlying2
  have a3 := Tryd.isAgg2
  have z3 := Tryd.sizeOf2
  have u4 := Tryd.underlying9
  have a4 := Tryd.isAgg9
  have z4 := Tryd.sizeOf9
  have hS : Tryd.prog.underlying 33 = some (.struct (Tryd.prog.fieldsOf 33)) := by kernel_rfl
  rw [run_equalIn_agg w 9999 33 _ _ hS (by kernel_rfl)]
  simp only [Program.fieldsOf, Tryd.underlying33]
  go_simp

theorem eqIrs (k s : Int) (w : World) : (Op.equalIn 10000 36 (.agg #[.int .i64 k, .int .i64 s]) (.agg #[.int .i64 k, .int .i64 s])).run Tryd.prog w = .ok true w := by
  have u3 := Tryd.underlying2
  have a3 := Tryd.isAgg2
  have z3 := Tryd.sizeOf2
  have hS : Tryd.prog.underlying 36 = some (.struct (Tryd.prog.fieldsOf 36)) := by kernel_rfl
  rw [run_equalIn_agg w 9999 36 _ _ hS (by kernel_rfl)]
  simp only [Program.fieldsOf, Tryd.underlying36]
  go_simp

theorem ak_in {xs : List T4} (hv : tfC xs = 0) {m : Nat} (h : m < xs.length) : akC xs (m : Int) = 0 := by
  rcases ak_ways xs (m : Int) with ⟨h1, _⟩ | ⟨_, h1, _⟩ | ⟨_, _, h1⟩
  · exact absurd hv h1
  · have : btw (m : Int) 0 ((xs.length : Int) - 1) = true := btw_iff.2 (by omega)
    rw [this] at h1; cases h1
  · exact h1

theorem moved_same {xs ys : List T4} (hv : tfC xs = 0) (hw : tfC ys = 0) {m k : Nat} (hm : m < xs.length) (hk : k < ys.length) (h : den xs m = den ys k) :
    smT xs m ys k = true ∧ ttC xs m = ttC ys k ∧ ttT xs m = ttT ys k ∧ szV xs m = szV ys k ∧ (paL xs m).length = (paL ys k).length := by
  have a1 := ak_in hv hm
  have a2 := ak_in hw hk
  refine ⟨?_, ?_, ?_, ?_, ?_⟩
  · unfold smT
    rw [if_pos a1, if_pos a2, Int.toNat_natCast, Int.toNat_natCast, h]; simp
  · unfold ttC
    rw [if_pos a1, if_pos a2, Int.toNat_natCast, Int.toNat_natCast, h]
  · unfold ttT
    rw [if_pos a1, if_pos a2, Int.toNat_natCast, Int.toNat_natCast, h, txt_den h]
  · unfold szV
    rw [if_pos a1, if_pos a2, Int.toNat_natCast, Int.toNat_natCast, h]
  · unfold paL
    rw [if_pos a1, if_pos a2, Int.toNat_natCast, Int.toNat_natCast]
    exact prL_same hv hw hm hk h

theorem partsLen (kl : Nat) (a : Option Addr) (n ca : Nat) (xs : List T4) (q : Int) (hq : akC xs q = 0) (hkl : (paL xs q).length = kl) (w : World) (ha : RdTerm w a xs) (hn : xs.length = n) (hx : n ≤ maxLen) (hok : ∀ t ∈ xs, okT t) :
    Calls Tryd.prog 13 #[.slice a n ca, .int .i64 q] w fun e w' => ∃ c d, e = .returned (.agg #[.int .i64 0, .slice c kl d]) ∧ Below w.heap.size w w' := by
  refine (implPartsOf_ok a n ca xs q w ha hn hx hok).mono ?_
  rintro e w' ⟨c, d, k, rfl, hk, _, b⟩
  rw [hkl] at hk
  subst hk
  rw [hq]
  exact ⟨c, d, rfl, b⟩

theorem extractM0 (u v x : Value) (w : World) : (Instr.extract (.tuple #[u, v, x]) 0).run Tryd.prog w = .ok u w := by kernel_rfl

theorem extractM1 (u v x : Value) (w : World) : (Instr.extract (.tuple #[u, v, x]) 1).run Tryd.prog w = .ok v w := by kernel_rfl

theorem extractM2 (u v x : Value) (w : World) : (Instr.extract (.tuple #[u, v, x]) 2).run Tryd.prog w = .ok x w := by kernel_rfl

theorem fieldM0 (k v : Int) (c : Option Addr) (n d : Nat) (w : World) : (Instr.field 28 (.agg #[.int .i64 k, .int .i64 v, .slice c n d]) 0).run Tryd.prog w = .ok (.int .i64 k) w := by kernel_rfl

theorem fieldP1 (k : Int) (c : Option Addr) (n d : Nat) (w : World) : (Instr.field 40 (.agg #[.int .i64 k, .slice c n d]) 1).run Tryd.prog w = .ok (.slice c n d) w := by kernel_rfl

set_option maxRecDepth 20000 in
set_option maxHeartbeats 32000000 in
theorem xMov_walk (a : Option Addr) (n ca : Nat) (zs : List Int) (w : World) (ha : Rd .u8 w a zs) (hb : Bytes zs) (hn : zs.length = n) (htab : Lib.TabIs Tryd.prog w (Rows.fnExactTermTextRow.laid.getD 2 ("", .nil)).1 .u64 Lib.pow10Tab) :
    Calls Tryd.prog 3 #[.slice a n ca] w fun e w' => e = .returned (.bool true) ∧ Below w.heap.size w w' := by
  by_cases hbig : 1048576 < n
  · have h1 : (1048576 : Int) < (n : Int) := by omega
    go_enter Tryd.func3, Tryd.ntmps3
    go_wp2_with (first | (go_at_call 5; go_in) | fail)
    go_ret
    exact ⟨rfl, Below.refl _ _⟩
  have h1 : ¬ (1048576 : Int) < (n : Int) := by omega
  have hT := Hid.mk (Lib.tabBelow_of_tabIs htab)
  have CD := Hid.mk (drawMoveTerm_ok a n ca zs w ha hb hn (by omega))
  clear ha hb hn hbig htab
  have e0 := extractM0
  have e1 := extractM1
  have e2 := extractM2
  go_enter Tryd.func3, Tryd.ntmps3
  go_wp2_with (first | (go_at_call 5; go_in) | fail)
  refine CD.out.mono ?_
  rintro e wA ⟨c, d, m0, xs, q, c2, d2, m2, ys, rfl, ⟨hlen, hm, hcap, hnc, hok, hlow⟩, _, ⟨hlen2, hm2, hcap2, hnc2, hok2⟩, RX, RY, B0⟩
  have hTA := Hid.mk (Lib.tabBelow_of_tabIs (hT.out _ B0))
  have CI := Hid.mk (fun w h h2 => implMoveTerm_ok c m0 d xs q c2 m2 d2 ys w h hlen (by omega) hok h2 hlen2 (by omega) hok2)
  have CS := Hid.mk (fun w h h2 hl => specMoveTerm_ok c m0 d xs q c2 m2 d2 ys w h hlen (by omega) hcap hl h2 hlen2 (by omega) hcap2 hnc2)
  have HB0 := Hid.mk B0
  have HX := Hid.mk RX
  have HY := Hid.mk RY
  have hways := moves_ways xs q ys
  clear B0 CD RX RY hcap2 hnc2 hT
  have B := Below.refl wA.heap.size wA
  rcases hways with ⟨kc, kk, ls, ePT, h3⟩ | ⟨m, J, kl, ls, rfl, hmx, ePT, hkl, hJl, hk4, hv, hw, hden, ePT2⟩
  · rw [ePT] at CI CS
    clear ePT
    simp only at CI CS
    obtain ⟨kl, hkl⟩ : ∃ kl, ls.length = kl := ⟨_, rfl⟩
    rw [hkl] at CI CS
    replace hkl := Hid.mk hkl
    have qf := fun c d w => fieldM0 kc kk c kl d w
    have h3' : (kc != 0) = true := by simp [h3]
    have h4' : (kc == kc) = true := by simp
    have HL := Hid.mk hlow
    clear h3 hok hok2 hlen hlen2 hlow hnc hcap
    have Bo := B
    go_wp2_with fail
    refine (CI.out _ (HX.out.kept B) (HY.out.kept B)).mono ?_
    rintro e w1 ⟨c1, d1, rfl, O1, b1⟩
    have S1 := b1.size
    replace B := thenB B b1
    clear b1
    have Bo := B
    replace O1 := O1.kept (belowA w1 (.cells #[.int .i64 kc, .int .i64 kk, .slice c1 kl d1] 28))
    replace B := thenB B (belowA w1 (.cells #[.int .i64 kc, .int .i64 kk, .slice c1 kl d1] 28))
    have VR := V.new w1 [.int .i64 kc, .int .i64 kk, .slice c1 kl d1] 28
    obtain ⟨s_VR, f_VR, z_VR⟩ := VR.open
    replace Bo := B
    go_upto_region 6 with fail
    clear s_VR f_VR z_VR
    have K : ∀ w' : World, Below (w1.alloc (.cells #[.int .i64 kc, .int .i64 kk, .slice c1 kl d1] 28)).heap.size (w1.alloc (.cells #[.int .i64 kc, .int .i64 kk, .slice c1 kl d1] 28)) w' → (w'.cell? ⟨w1.heap.size, 0, none⟩ = some (.int .i64 kc) ∧ w'.cell? ⟨w1.heap.size, 1, none⟩ = some (.int .i64 kk) ∧ w'.cell? ⟨w1.heap.size, 2, none⟩ = some (.slice c1 kl d1)) := fun w' h => ⟨(VR.kept h).2.1 0 (by simp), (VR.kept h).2.1 1 (by simp), (VR.kept h).2.1 2 (by simp)⟩
    have K := Hid.mk K
    refine wp_region_held_drew (S := (fun w' => w'.cell? ⟨w1.heap.size, 0, none⟩ = some (.int .i64 kc) ∧ w'.cell? ⟨w1.heap.size, 1, none⟩ = some (.int .i64 kk) ∧ w'.cell? ⟨w1.heap.size, 2, none⟩ = some (.slice c1 kl d1))) (by kernel_rfl) (K.out _ (Below.refl _ _).drew) (fun hHeld => ?_)
    refine wpAnyH_take (i := 0) (oi := _) (v := ?vz1u1) rfl (by kernel_rfl) (by kernel_rfl) (by kernel_rfl) (fun _ _ _ h => h) (Or.inl ⟨by kernel_rfl, ?hyz1u1⟩) hHeld ?restz1u1
    case hyz1u1 => (intro w hSw; (try dsimp only at hSw); go_simp; first | done | with_reducible rfl)
    try simp only [Act.put, List.getElem_toArray, List.getElem_cons_zero, List.setIfInBounds_toArray, List.set_cons_zero, List.set_cons_succ]
    refine wpAnyH_take (i := 1) (oi := _) (v := ?vz1u2) rfl (by kernel_rfl) (by kernel_rfl) (by kernel_rfl) (fun _ _ _ h => h) (Or.inl ⟨by kernel_rfl, ?hyz1u2⟩) hHeld ?restz1u2
    case hyz1u2 => (intro w hSw; (try dsimp only at hSw); go_simp; first | done | with_reducible rfl)
    try simp only [Act.put, List.getElem_toArray, List.getElem_cons_zero, List.getElem_cons_succ, List.setIfInBounds_toArray, List.set_cons_zero, List.set_cons_succ]
    refine wpAnyH_take (i := 2) (oi := _) (v := ?vz1u3) rfl (by kernel_rfl) (by kernel_rfl) (by kernel_rfl) (fun _ _ _ h => h) (Or.inl ⟨by kernel_rfl, ?hyz1u3⟩) hHeld ?restz1u3
    case hyz1u3 => (intro w hSw; (try dsimp only at hSw); go_simp; first | done | with_reducible rfl)
    try simp only [Act.put, List.getElem_toArray, List.getElem_cons_zero, List.getElem_cons_succ, List.setIfInBounds_toArray, List.set_cons_zero, List.set_cons_succ]
    refine wpAnyH_take (i := 5) (oi := _) (v := ?vz1u4) rfl (by kernel_rfl) (by kernel_rfl) (by kernel_rfl) (fun _ _ _ h => h) (Or.inl ⟨by kernel_rfl, ?hyz1u4⟩) hHeld ?restz1u4
    case hyz1u4 => (intro w hSw; (try dsimp only at hSw); go_simp; first | done | with_reducible rfl)
    try simp only [Act.put, List.getElem_toArray, List.getElem_cons_zero, List.getElem_cons_succ, List.setIfInBounds_toArray, List.set_cons_zero, List.set_cons_succ]
    refine wpAnyH_take (i := 6) (oi := _) (v := ?vz1u5) rfl (by kernel_rfl) (by kernel_rfl) (by kernel_rfl) (fun _ _ _ h => h) (Or.inl ⟨by kernel_rfl, ?hyz1u5⟩) hHeld ?restz1u5
    case hyz1u5 => (intro w hSw; (try dsimp only at hSw); go_simp; first | done | with_reducible rfl)
    try simp only [Act.put, List.getElem_toArray, List.getElem_cons_zero, List.getElem_cons_succ, List.setIfInBounds_toArray, List.set_cons_zero, List.set_cons_succ]
    refine wpAnyH_ready (rs := [3]) (by kernel_rfl) (by simp) ?_
    refine AllReadyH.cons (o := _) rfl (fun K0 hK0 => ?_) AllReadyH.nil
    go_simp
    go_at_call 8
    refine (CS.out _ ((HX.out.kept B).kept (Below.refl _ _).drew) ((HY.out.kept B).kept (Below.refl _ _).drew) (Hid.mk (fun b hb => Nat.lt_of_lt_of_le (HL.out b hb) (thenB B (Below.refl _ _).drew).size))).mono ?_
    rintro e wz1v6 ⟨c3, d3, rfl, _, bz1v6⟩
    refine hK0.out _ _ (K.out _ (thenB (Below.refl _ _).drew bz1v6)) (fun hHeld => ?_)
    clear hK0 K0
    try simp only [Act.put, List.getElem_toArray, List.getElem_cons_zero, List.getElem_cons_succ, List.setIfInBounds_toArray, List.set_cons_zero, List.set_cons_succ]
    refine wpAnyH_take (i := 4) (oi := _) (v := ?vz1u7) rfl (by kernel_rfl) (by kernel_rfl) (by kernel_rfl) (fun _ _ _ h => h) (Or.inl ⟨by kernel_rfl, ?hyz1u7⟩) hHeld ?restz1u7
    case hyz1u7 => (intro w hSw; (try dsimp only at hSw); go_simp; first | done | with_reducible rfl)
    try simp only [Act.put, List.getElem_toArray, List.getElem_cons_zero, List.getElem_cons_succ, List.setIfInBounds_toArray, List.set_cons_zero, List.set_cons_succ]
    refine wpAnyH_take (i := 7) (oi := _) (v := ?vz1u8) rfl (by kernel_rfl) (by kernel_rfl) (by kernel_rfl) (fun _ _ _ h => h) (Or.inl ⟨by kernel_rfl, ?hyz1u8⟩) hHeld ?restz1u8
    case hyz1u8 => (intro w hSw; (try dsimp only at hSw); go_simp; first | done | with_reducible rfl)
    try simp only [Act.put, List.getElem_toArray, List.getElem_cons_zero, List.getElem_cons_succ, List.setIfInBounds_toArray, List.set_cons_zero, List.set_cons_succ]
    refine wpAnyH_take (i := 8) (oi := _) (v := ?vz1u9) rfl (by kernel_rfl) (by kernel_rfl) (by kernel_rfl) (fun _ _ _ h => h) (Or.inl ⟨by kernel_rfl, ?hyz1u9⟩) hHeld ?restz1u9
    case hyz1u9 => (intro w hSw; (try dsimp only at hSw); go_simp; first | done | with_reducible rfl)
    try simp only [Act.put, List.getElem_toArray, List.getElem_cons_zero, List.getElem_cons_succ, List.setIfInBounds_toArray, List.set_cons_zero, List.set_cons_succ]
    refine wpAnyH_done (by kernel_rfl) ?_ _
    clear K hHeld
    have bacc : Below (w1.alloc (.cells #[.int .i64 kc, .int .i64 kk, .slice c1 kl d1] 28)).heap.size (w1.alloc (.cells #[.int .i64 kc, .int .i64 kk, .slice c1 kl d1] 28)) wz1v6 := (thenB (Below.refl _ _).drew bz1v6)
    replace VR := VR.kept bacc
    replace O1 := O1.kept bacc
    replace B := thenB B bacc
    have Sz1 := (bacc).size
    clear bacc
    simp only [World.size_alloc] at Sz1
    clear bz1v6
    obtain ⟨s_VR, f_VR, z_VR⟩ := VR.open
    have Bo := B
    go_wp2
    go_ret
    exact ⟨rfl, HB0.out.trans (B.mono HB0.out.size)⟩
  · rw [ePT] at CI
    clear ePT CS
    have hokl := tfC_ok hw
    have CI2 := Hid.mk (fun c1 d1 w h h2 => implMoveTerm_ok c1 kl d1 ls (J : Int) c m0 d xs w h hkl (by omega) hokl h2 hlen (by omega) hok)
    rw [ePT2] at CI2
    simp only at CI CI2
    rw [hkl] at CI
    rw [hlen] at CI2
    have CT := Hid.mk (fun c d w h => implTermsFault_ok c kl d ls w h hkl (by unfold maxLen; omega) hokl)
    rw [hw] at CT
    obtain ⟨s1, s2, s3, s4, s5⟩ := moved_same hv hw (m := m) (k := J) hmx (by rw [hkl]; exact hJl) hden
    have a1 := ak_in hv (m := m) hmx
    have a2 := ak_in hw (m := J) (by rw [hkl]; exact hJl)
    have CSm := Hid.mk (fun c1 d1 w h h2 => implSameTerms_ok c m0 d xs (m : Int) c1 kl d1 ls (J : Int) w h hlen (by unfold maxLen; omega) hok h2 hkl (by unfold maxLen; omega) hokl)
    rw [s1] at CSm
    have CX1 := Hid.mk (fun w h t => implTermText_ok c m0 d xs (m : Int) w h hlen (by unfold maxLen; omega) hcap hok t)
    have CX2 := Hid.mk (fun c1 d1 w h hc t => implTermText_ok c1 kl d1 ls (J : Int) w h hkl (by unfold maxLen; omega) hc hokl t)
    rw [s2, s3] at CX1
    have CZ1 := Hid.mk (fun w h => implSizeOf_ok c m0 d xs (m : Int) w h hlen (by unfold maxLen; omega) hcap hok)
    have CZ2 := Hid.mk (fun c1 d1 w h hc => implSizeOf_ok c1 kl d1 ls (J : Int) w h hkl (by unfold maxLen; omega) hc hokl)
    rw [s4, a1] at CZ1
    rw [a2] at CZ2
    obtain ⟨np, hnp⟩ : ∃ np, (paL ls (J : Int)).length = np := ⟨_, rfl⟩
    have CP1 := Hid.mk (fun w h => partsLen np c m0 d xs (m : Int) a1 (by rw [s5]; exact hnp) w h hlen (by unfold maxLen; omega) hok)
    have CP2 := Hid.mk (fun c1 d1 w h => partsLen np c1 kl d1 ls (J : Int) a2 hnp w h hkl (by unfold maxLen; omega) hokl)
    have HKL := Hid.mk hkl
    generalize ttC ls (J : Int) = tc at *
    generalize ttT ls (J : Int) = tx at *
    generalize szV ls (J : Int) = sz at *
    have qx := eqTxt tc tx
    have qs := eqIrs 0 sz
    have qp := fun c d w => fieldP1 0 c np d w
    have qm : ((m : Int) == (m : Int)) = true := by simp
    have qn : ((np : Int) == (np : Int)) = true := by simp
    have qk : ((m0 : Int) == (m0 : Int)) = true := by simp
    clear hok hok2 hlen hlen2 hlow hnc hcap ePT2 hv hw hden hokl hkl hnp s1 s2 s3 s4 s5 a1 a2 hmx hJl
    have Bo := B
    go_wp2_with fail
    refine (CI.out _ (HX.out.kept B) (HY.out.kept B)).mono ?_
    rintro e w51 ⟨c1, d1, rfl, O1, b51⟩
    have S51 := b51.size
    replace B := thenB B b51
    clear b51
    have Bo := B
    replace O1 := O1.kept (belowA w51 (.cells #[.int .i64 0, .int .i64 (J : Int), .slice c1 kl d1] 28))
    replace B := thenB B (belowA w51 (.cells #[.int .i64 0, .int .i64 (J : Int), .slice c1 kl d1] 28))
    have VR := V.new w51 [.int .i64 0, .int .i64 (J : Int), .slice c1 kl d1] 28
    obtain ⟨s_VR, f_VR, z_VR⟩ := VR.open
    replace Bo := B
    have R1 := O1.rd
    have hcl : Hid (kl ≤ d1) := Hid.mk (by have := O1.cap; rw [HKL.out] at this; exact this)
    clear O1
    go_wp2_with fail
    refine (CI2.out c1 d1 _ R1 (HX.out.kept B)).mono ?_
    rintro e w52 ⟨c3, d3, rfl, _, b52⟩
    clear s_VR f_VR z_VR
    have S52 := b52.size
    simp only [World.size_alloc] at S52
    replace VR := VR.kept b52
    replace R1 := R1.kept b52
    replace B := thenB B b52
    clear b52
    obtain ⟨s_VR, f_VR, z_VR⟩ := VR.open
    have Bo := B
    replace VR := VR.kept (belowA w52 (.cells #[.int .i64 0, .int .i64 (m : Int), .slice c3 m0 d3] 28))
    replace R1 := R1.kept (belowA w52 (.cells #[.int .i64 0, .int .i64 (m : Int), .slice c3 m0 d3] 28))
    replace B := thenB B (belowA w52 (.cells #[.int .i64 0, .int .i64 (m : Int), .slice c3 m0 d3] 28))
    have VB := V.new w52 [.int .i64 0, .int .i64 (m : Int), .slice c3 m0 d3] 28
    clear s_VR f_VR z_VR
    obtain ⟨s_VR, f_VR, z_VR⟩ := VR.open
    obtain ⟨s_VB, f_VB, z_VB⟩ := VB.open
    replace Bo := B
    clear s_VR f_VR z_VR s_VB f_VB z_VB
    have K : ∀ w' : World, Below (w52.alloc (.cells #[.int .i64 0, .int .i64 (m : Int), .slice c3 m0 d3] 28)).heap.size (w52.alloc (.cells #[.int .i64 0, .int .i64 (m : Int), .slice c3 m0 d3] 28)) w' → (w'.cell? ⟨w51.heap.size, 0, none⟩ = some (.int .i64 0) ∧ w'.cell? ⟨w51.heap.size, 1, none⟩ = some (.int .i64 (J : Int)) ∧ w'.cell? ⟨w51.heap.size, 2, none⟩ = some (.slice c1 kl d1) ∧ w'.cell? ⟨w52.heap.size, 0, none⟩ = some (.int .i64 0) ∧ w'.cell? ⟨w52.heap.size, 1, none⟩ = some (.int .i64 (m : Int)) ∧ w'.cell? ⟨w52.heap.size, 2, none⟩ = some (.slice c3 m0 d3)) := fun w' h => ⟨(VR.kept h).2.1 0 (by simp), (VR.kept h).2.1 1 (by simp), (VR.kept h).2.1 2 (by simp), (VB.kept h).2.1 0 (by simp), (VB.kept h).2.1 1 (by simp), (VB.kept h).2.1 2 (by simp)⟩
    have K := Hid.mk K
    go_upto_region 8 with fail
    simp only [List.append_eq, List.cons_append, List.nil_append]
    refine wp_region_held_drew (S := (fun w' => w'.cell? ⟨w51.heap.size, 0, none⟩ = some (.int .i64 0) ∧ w'.cell? ⟨w51.heap.size, 1, none⟩ = some (.int .i64 (J : Int)) ∧ w'.cell? ⟨w51.heap.size, 2, none⟩ = some (.slice c1 kl d1) ∧ w'.cell? ⟨w52.heap.size, 0, none⟩ = some (.int .i64 0) ∧ w'.cell? ⟨w52.heap.size, 1, none⟩ = some (.int .i64 (m : Int)) ∧ w'.cell? ⟨w52.heap.size, 2, none⟩ = some (.slice c3 m0 d3))) (by kernel_rfl) (K.out _ (Below.refl _ _).drew) (fun hHeld => ?_)
    refine wpAnyH_take (i := 0) (oi := _) (v := ?vz51u1) rfl (by kernel_rfl) (by kernel_rfl) (by kernel_rfl) (fun _ _ _ h => h) (Or.inl ⟨by kernel_rfl, ?hyz51u1⟩) hHeld ?restz51u1
    case hyz51u1 => (intro w hSw; (try dsimp only at hSw); go_simp; first | done | with_reducible rfl)
    try simp only [Act.put, List.getElem_toArray, List.getElem_cons_zero, List.setIfInBounds_toArray, List.set_cons_zero, List.set_cons_succ]
    refine wpAnyH_take (i := 1) (oi := _) (v := ?vz51u2) rfl (by kernel_rfl) (by kernel_rfl) (by kernel_rfl) (fun _ _ _ h => h) (Or.inl ⟨by kernel_rfl, ?hyz51u2⟩) hHeld ?restz51u2
    case hyz51u2 => (intro w hSw; (try dsimp only at hSw); go_simp; first | done | with_reducible rfl)
    try simp only [Act.put, List.getElem_toArray, List.getElem_cons_zero, List.getElem_cons_succ, List.setIfInBounds_toArray, List.set_cons_zero, List.set_cons_succ]
    refine wpAnyH_ready (rs := [2]) (by kernel_rfl) (by simp) ?_
    refine AllReadyH.cons (o := _) rfl (fun K0 hK0 => ?_) AllReadyH.nil
    go_simp
    go_at_call 9
    refine (CT.out c1 d1 _ (R1.kept (Below.refl _ _).drew)).mono ?_
    rintro e wz51v3 ⟨rfl, bz51v3⟩
    refine hK0.out _ _ (K.out _ (thenB (Below.refl _ _).drew bz51v3)) (fun hHeld => ?_)
    clear hK0 K0
    try simp only [Act.put, List.getElem_toArray, List.getElem_cons_zero, List.getElem_cons_succ, List.setIfInBounds_toArray, List.set_cons_zero, List.set_cons_succ]
    refine wpAnyH_take (i := 3) (oi := _) (v := ?vz51u4) rfl (by kernel_rfl) (by kernel_rfl) (by kernel_rfl) (fun _ _ _ h => h) (Or.inl ⟨by kernel_rfl, ?hyz51u4⟩) hHeld ?restz51u4
    case hyz51u4 => (intro w hSw; (try dsimp only at hSw); go_simp; first | done | with_reducible rfl)
    try simp only [Act.put, List.getElem_toArray, List.getElem_cons_zero, List.getElem_cons_succ, List.setIfInBounds_toArray, List.set_cons_zero, List.set_cons_succ]
    refine wpAnyH_take (i := 4) (oi := _) (v := ?vz51u5) rfl (by kernel_rfl) (by kernel_rfl) (by kernel_rfl) (fun _ _ _ h => h) (Or.inl ⟨by kernel_rfl, ?hyz51u5⟩) hHeld ?restz51u5
    case hyz51u5 => (intro w hSw; (try dsimp only at hSw); go_simp; first | done | with_reducible rfl)
    try simp only [Act.put, List.getElem_toArray, List.getElem_cons_zero, List.getElem_cons_succ, List.setIfInBounds_toArray, List.set_cons_zero, List.set_cons_succ]
    refine wpAnyH_take (i := 5) (oi := _) (v := ?vz51u6) rfl (by kernel_rfl) (by kernel_rfl) (by kernel_rfl) (fun _ _ _ h => h) (Or.inl ⟨by kernel_rfl, ?hyz51u6⟩) hHeld ?restz51u6
    case hyz51u6 => (intro w hSw; (try dsimp only at hSw); go_simp; first | done | with_reducible rfl)
    try simp only [Act.put, List.getElem_toArray, List.getElem_cons_zero, List.getElem_cons_succ, List.setIfInBounds_toArray, List.set_cons_zero, List.set_cons_succ]
    refine wpAnyH_take (i := 6) (oi := _) (v := ?vz51u7) rfl (by kernel_rfl) (by kernel_rfl) (by kernel_rfl) (fun _ _ _ h => h) (Or.inl ⟨by kernel_rfl, ?hyz51u7⟩) hHeld ?restz51u7
    case hyz51u7 => (intro w hSw; (try dsimp only at hSw); go_simp; first | done | with_reducible rfl)
    try simp only [Act.put, List.getElem_toArray, List.getElem_cons_zero, List.getElem_cons_succ, List.setIfInBounds_toArray, List.set_cons_zero, List.set_cons_succ]
    refine wpAnyH_take (i := 7) (oi := _) (v := ?vz51u8) rfl (by kernel_rfl) (by kernel_rfl) (by kernel_rfl) (fun _ _ _ h => h) (Or.inl ⟨by kernel_rfl, ?hyz51u8⟩) hHeld ?restz51u8
    case hyz51u8 => (intro w hSw; (try dsimp only at hSw); go_simp; first | done | with_reducible rfl)
    try simp only [Act.put, List.getElem_toArray, List.getElem_cons_zero, List.getElem_cons_succ, List.setIfInBounds_toArray, List.set_cons_zero, List.set_cons_succ]
    refine wpAnyH_take (i := 8) (oi := _) (v := ?vz51u9) rfl (by kernel_rfl) (by kernel_rfl) (by kernel_rfl) (fun _ _ _ h => h) (Or.inl ⟨by kernel_rfl, ?hyz51u9⟩) hHeld ?restz51u9
    case hyz51u9 => (intro w hSw; (try dsimp only at hSw); go_simp; first | done | with_reducible rfl)
    try simp only [Act.put, List.getElem_toArray, List.getElem_cons_zero, List.getElem_cons_succ, List.setIfInBounds_toArray, List.set_cons_zero, List.set_cons_succ]
    refine wpAnyH_take (i := 9) (oi := _) (v := ?vz51u10) rfl (by kernel_rfl) (by kernel_rfl) (by kernel_rfl) (fun _ _ _ h => h) (Or.inl ⟨by kernel_rfl, ?hyz51u10⟩) hHeld ?restz51u10
    case hyz51u10 => (intro w hSw; (try dsimp only at hSw); go_simp; first | done | with_reducible rfl)
    try simp only [Act.put, List.getElem_toArray, List.getElem_cons_zero, List.getElem_cons_succ, List.setIfInBounds_toArray, List.set_cons_zero, List.set_cons_succ]
    refine wpAnyH_take (i := 10) (oi := _) (v := ?vz51u11) rfl (by kernel_rfl) (by kernel_rfl) (by kernel_rfl) (fun _ _ _ h => h) (Or.inl ⟨by kernel_rfl, ?hyz51u11⟩) hHeld ?restz51u11
    case hyz51u11 => (intro w hSw; (try dsimp only at hSw); go_simp; first | done | with_reducible rfl)
    try simp only [Act.put, List.getElem_toArray, List.getElem_cons_zero, List.getElem_cons_succ, List.setIfInBounds_toArray, List.set_cons_zero, List.set_cons_succ]
    refine wpAnyH_ready (rs := [11]) (by kernel_rfl) (by simp) ?_
    refine AllReadyH.cons (o := _) rfl (fun K0 hK0 => ?_) AllReadyH.nil
    go_simp
    go_at_call 10
    refine (CSm.out c1 d1 _ ((HX.out.kept B).kept (thenB (Below.refl _ _).drew bz51v3)) (R1.kept (thenB (Below.refl _ _).drew bz51v3))).mono ?_
    rintro e wz51v12 ⟨rfl, bz51v12⟩
    refine hK0.out _ _ (K.out _ (thenB (thenB (Below.refl _ _).drew bz51v3) bz51v12)) (fun hHeld => ?_)
    clear hK0 K0
    try simp only [Act.put, List.getElem_toArray, List.getElem_cons_zero, List.getElem_cons_succ, List.setIfInBounds_toArray, List.set_cons_zero, List.set_cons_succ]
    refine wpAnyH_take (i := 12) (oi := _) (v := ?vz51u13) rfl (by kernel_rfl) (by kernel_rfl) (by kernel_rfl) (fun _ _ _ h => h) (Or.inl ⟨by kernel_rfl, ?hyz51u13⟩) hHeld ?restz51u13
    case hyz51u13 => (intro w hSw; (try dsimp only at hSw); go_simp; first | done | with_reducible rfl)
    try simp only [Act.put, List.getElem_toArray, List.getElem_cons_zero, List.getElem_cons_succ, List.setIfInBounds_toArray, List.set_cons_zero, List.set_cons_succ]
    refine wpAnyH_take (i := 13) (oi := _) (v := ?vz51u14) rfl (by kernel_rfl) (by kernel_rfl) (by kernel_rfl) (fun _ _ _ h => h) (Or.inl ⟨by kernel_rfl, ?hyz51u14⟩) hHeld ?restz51u14
    case hyz51u14 => (intro w hSw; (try dsimp only at hSw); go_simp; first | done | with_reducible rfl)
    try simp only [Act.put, List.getElem_toArray, List.getElem_cons_zero, List.getElem_cons_succ, List.setIfInBounds_toArray, List.set_cons_zero, List.set_cons_succ]
    refine wpAnyH_take (i := 14) (oi := _) (v := ?vz51u15) rfl (by kernel_rfl) (by kernel_rfl) (by kernel_rfl) (fun _ _ _ h => h) (Or.inl ⟨by kernel_rfl, ?hyz51u15⟩) hHeld ?restz51u15
    case hyz51u15 => (intro w hSw; (try dsimp only at hSw); go_simp; first | done | with_reducible rfl)
    try simp only [Act.put, List.getElem_toArray, List.getElem_cons_zero, List.getElem_cons_succ, List.setIfInBounds_toArray, List.set_cons_zero, List.set_cons_succ]
    refine wpAnyH_take (i := 15) (oi := _) (v := ?vz51u16) rfl (by kernel_rfl) (by kernel_rfl) (by kernel_rfl) (fun _ _ _ h => h) (Or.inl ⟨by kernel_rfl, ?hyz51u16⟩) hHeld ?restz51u16
    case hyz51u16 => (intro w hSw; (try dsimp only at hSw); go_simp; first | done | with_reducible rfl)
    try simp only [Act.put, List.getElem_toArray, List.getElem_cons_zero, List.getElem_cons_succ, List.setIfInBounds_toArray, List.set_cons_zero, List.set_cons_succ]
    refine wpAnyH_take (i := 17) (oi := _) (v := ?vz51u17) rfl (by kernel_rfl) (by kernel_rfl) (by kernel_rfl) (fun _ _ _ h => h) (Or.inl ⟨by kernel_rfl, ?hyz51u17⟩) hHeld ?restz51u17
    case hyz51u17 => (intro w hSw; (try dsimp only at hSw); go_simp; first | done | with_reducible rfl)
    try simp only [Act.put, List.getElem_toArray, List.getElem_cons_zero, List.getElem_cons_succ, List.setIfInBounds_toArray, List.set_cons_zero, List.set_cons_succ]
    refine wpAnyH_take (i := 18) (oi := _) (v := ?vz51u18) rfl (by kernel_rfl) (by kernel_rfl) (by kernel_rfl) (fun _ _ _ h => h) (Or.inl ⟨by kernel_rfl, ?hyz51u18⟩) hHeld ?restz51u18
    case hyz51u18 => (intro w hSw; (try dsimp only at hSw); go_simp; first | done | with_reducible rfl)
    try simp only [Act.put, List.getElem_toArray, List.getElem_cons_zero, List.getElem_cons_succ, List.setIfInBounds_toArray, List.set_cons_zero, List.set_cons_succ]
    refine wpAnyH_take (i := 19) (oi := _) (v := ?vz51u19) rfl (by kernel_rfl) (by kernel_rfl) (by kernel_rfl) (fun _ _ _ h => h) (Or.inl ⟨by kernel_rfl, ?hyz51u19⟩) hHeld ?restz51u19
    case hyz51u19 => (intro w hSw; (try dsimp only at hSw); go_simp; first | done | with_reducible rfl)
    try simp only [Act.put, List.getElem_toArray, List.getElem_cons_zero, List.getElem_cons_succ, List.setIfInBounds_toArray, List.set_cons_zero, List.set_cons_succ]
    refine wpAnyH_take (i := 20) (oi := _) (v := ?vz51u20) rfl (by kernel_rfl) (by kernel_rfl) (by kernel_rfl) (fun _ _ _ h => h) (Or.inl ⟨by kernel_rfl, ?hyz51u20⟩) hHeld ?restz51u20
    case hyz51u20 => (intro w hSw; (try dsimp only at hSw); go_simp; first | done | with_reducible rfl)
    try simp only [Act.put, List.getElem_toArray, List.getElem_cons_zero, List.getElem_cons_succ, List.setIfInBounds_toArray, List.set_cons_zero, List.set_cons_succ]
    refine wpAnyH_ready (rs := [16]) (by kernel_rfl) (by simp) ?_
    refine AllReadyH.cons (o := _) rfl (fun K0 hK0 => ?_) AllReadyH.nil
    go_simp
    go_at_call 11
    refine (CX1.out _ ((HX.out.kept B).kept (thenB (thenB (Below.refl _ _).drew bz51v3) bz51v12)) (hTA.out _ (thenB B (thenB (thenB (Below.refl _ _).drew bz51v3) bz51v12)))).mono ?_
    rintro e wz51v21 ⟨rfl, bz51v21⟩
    refine hK0.out _ _ (K.out _ (thenB (thenB (thenB (Below.refl _ _).drew bz51v3) bz51v12) bz51v21)) (fun hHeld => ?_)
    clear hK0 K0
    try simp only [Act.put, List.getElem_toArray, List.getElem_cons_zero, List.getElem_cons_succ, List.setIfInBounds_toArray, List.set_cons_zero, List.set_cons_succ]
    refine wpAnyH_ready (rs := [21]) (by kernel_rfl) (by simp) ?_
    refine AllReadyH.cons (o := _) rfl (fun K0 hK0 => ?_) AllReadyH.nil
    go_simp
    go_at_call 11
    refine (CX2.out c1 d1 _ (R1.kept (thenB (thenB (thenB (Below.refl _ _).drew bz51v3) bz51v12) bz51v21)) hcl.out (hTA.out _ (thenB B (thenB (thenB (thenB (Below.refl _ _).drew bz51v3) bz51v12) bz51v21)))).mono ?_
    rintro e wz51v22 ⟨rfl, bz51v22⟩
    refine hK0.out _ _ (K.out _ (thenB (thenB (thenB (thenB (Below.refl _ _).drew bz51v3) bz51v12) bz51v21) bz51v22)) (fun hHeld => ?_)
    clear hK0 K0
    try simp only [Act.put, List.getElem_toArray, List.getElem_cons_zero, List.getElem_cons_succ, List.setIfInBounds_toArray, List.set_cons_zero, List.set_cons_succ]
    refine wpAnyH_take (i := 22) (oi := _) (v := ?vz51u23) rfl (by kernel_rfl) (by kernel_rfl) (by kernel_rfl) (fun _ _ _ h => h) (Or.inl ⟨by kernel_rfl, ?hyz51u23⟩) hHeld ?restz51u23
    case hyz51u23 => (intro w hSw; (try dsimp only at hSw); go_simp; first | done | with_reducible rfl)
    try simp only [Act.put, List.getElem_toArray, List.getElem_cons_zero, List.getElem_cons_succ, List.setIfInBounds_toArray, List.set_cons_zero, List.set_cons_succ]
    refine wpAnyH_take (i := 23) (oi := _) (v := ?vz51u24) rfl (by kernel_rfl) (by kernel_rfl) (by kernel_rfl) (fun _ _ _ h => h) (Or.inl ⟨by kernel_rfl, ?hyz51u24⟩) hHeld ?restz51u24
    case hyz51u24 => (intro w hSw; (try dsimp only at hSw); go_simp; first | done | with_reducible rfl)
    try simp only [Act.put, List.getElem_toArray, List.getElem_cons_zero, List.getElem_cons_succ, List.setIfInBounds_toArray, List.set_cons_zero, List.set_cons_succ]
    refine wpAnyH_take (i := 24) (oi := _) (v := ?vz51u25) rfl (by kernel_rfl) (by kernel_rfl) (by kernel_rfl) (fun _ _ _ h => h) (Or.inl ⟨by kernel_rfl, ?hyz51u25⟩) hHeld ?restz51u25
    case hyz51u25 => (intro w hSw; (try dsimp only at hSw); go_simp; first | done | with_reducible rfl)
    try simp only [Act.put, List.getElem_toArray, List.getElem_cons_zero, List.getElem_cons_succ, List.setIfInBounds_toArray, List.set_cons_zero, List.set_cons_succ]
    refine wpAnyH_take (i := 25) (oi := _) (v := ?vz51u26) rfl (by kernel_rfl) (by kernel_rfl) (by kernel_rfl) (fun _ _ _ h => h) (Or.inl ⟨by kernel_rfl, ?hyz51u26⟩) hHeld ?restz51u26
    case hyz51u26 => (intro w hSw; (try dsimp only at hSw); go_simp; first | done | with_reducible rfl)
    try simp only [Act.put, List.getElem_toArray, List.getElem_cons_zero, List.getElem_cons_succ, List.setIfInBounds_toArray, List.set_cons_zero, List.set_cons_succ]
    refine wpAnyH_take (i := 26) (oi := _) (v := ?vz51u27) rfl (by kernel_rfl) (by kernel_rfl) (by kernel_rfl) (fun _ _ _ h => h) (Or.inl ⟨by kernel_rfl, ?hyz51u27⟩) hHeld ?restz51u27
    case hyz51u27 => (intro w hSw; (try dsimp only at hSw); go_simp; first | done | with_reducible rfl)
    try simp only [Act.put, List.getElem_toArray, List.getElem_cons_zero, List.getElem_cons_succ, List.setIfInBounds_toArray, List.set_cons_zero, List.set_cons_succ]
    refine wpAnyH_take (i := 28) (oi := _) (v := ?vz51u28) rfl (by kernel_rfl) (by kernel_rfl) (by kernel_rfl) (fun _ _ _ h => h) (Or.inl ⟨by kernel_rfl, ?hyz51u28⟩) hHeld ?restz51u28
    case hyz51u28 => (intro w hSw; (try dsimp only at hSw); go_simp; first | done | with_reducible rfl)
    try simp only [Act.put, List.getElem_toArray, List.getElem_cons_zero, List.getElem_cons_succ, List.setIfInBounds_toArray, List.set_cons_zero, List.set_cons_succ]
    refine wpAnyH_take (i := 29) (oi := _) (v := ?vz51u29) rfl (by kernel_rfl) (by kernel_rfl) (by kernel_rfl) (fun _ _ _ h => h) (Or.inl ⟨by kernel_rfl, ?hyz51u29⟩) hHeld ?restz51u29
    case hyz51u29 => (intro w hSw; (try dsimp only at hSw); go_simp; first | done | with_reducible rfl)
    try simp only [Act.put, List.getElem_toArray, List.getElem_cons_zero, List.getElem_cons_succ, List.setIfInBounds_toArray, List.set_cons_zero, List.set_cons_succ]
    refine wpAnyH_take (i := 30) (oi := _) (v := ?vz51u30) rfl (by kernel_rfl) (by kernel_rfl) (by kernel_rfl) (fun _ _ _ h => h) (Or.inl ⟨by kernel_rfl, ?hyz51u30⟩) hHeld ?restz51u30
    case hyz51u30 => (intro w hSw; (try dsimp only at hSw); go_simp; first | done | with_reducible rfl)
    try simp only [Act.put, List.getElem_toArray, List.getElem_cons_zero, List.getElem_cons_succ, List.setIfInBounds_toArray, List.set_cons_zero, List.set_cons_succ]
    refine wpAnyH_take (i := 31) (oi := _) (v := ?vz51u31) rfl (by kernel_rfl) (by kernel_rfl) (by kernel_rfl) (fun _ _ _ h => h) (Or.inl ⟨by kernel_rfl, ?hyz51u31⟩) hHeld ?restz51u31
    case hyz51u31 => (intro w hSw; (try dsimp only at hSw); go_simp; first | done | with_reducible rfl)
    try simp only [Act.put, List.getElem_toArray, List.getElem_cons_zero, List.getElem_cons_succ, List.setIfInBounds_toArray, List.set_cons_zero, List.set_cons_succ]
    refine wpAnyH_ready (rs := [27]) (by kernel_rfl) (by simp) ?_
    refine AllReadyH.cons (o := _) rfl (fun K0 hK0 => ?_) AllReadyH.nil
    go_simp
    go_at_call 12
    refine (CZ1.out _ ((HX.out.kept B).kept (thenB (thenB (thenB (thenB (Below.refl _ _).drew bz51v3) bz51v12) bz51v21) bz51v22))).mono ?_
    rintro e wz51v32 ⟨rfl, bz51v32⟩
    refine hK0.out _ _ (K.out _ (thenB (thenB (thenB (thenB (thenB (Below.refl _ _).drew bz51v3) bz51v12) bz51v21) bz51v22) bz51v32)) (fun hHeld => ?_)
    clear hK0 K0
    try simp only [Act.put, List.getElem_toArray, List.getElem_cons_zero, List.getElem_cons_succ, List.setIfInBounds_toArray, List.set_cons_zero, List.set_cons_succ]
    refine wpAnyH_ready (rs := [32]) (by kernel_rfl) (by simp) ?_
    refine AllReadyH.cons (o := _) rfl (fun K0 hK0 => ?_) AllReadyH.nil
    go_simp
    go_at_call 12
    refine (CZ2.out c1 d1 _ (R1.kept (thenB (thenB (thenB (thenB (thenB (Below.refl _ _).drew bz51v3) bz51v12) bz51v21) bz51v22) bz51v32)) hcl.out).mono ?_
    rintro e wz51v33 ⟨rfl, bz51v33⟩
    refine hK0.out _ _ (K.out _ (thenB (thenB (thenB (thenB (thenB (thenB (Below.refl _ _).drew bz51v3) bz51v12) bz51v21) bz51v22) bz51v32) bz51v33)) (fun hHeld => ?_)
    clear hK0 K0
    try simp only [Act.put, List.getElem_toArray, List.getElem_cons_zero, List.getElem_cons_succ, List.setIfInBounds_toArray, List.set_cons_zero, List.set_cons_succ]
    refine wpAnyH_take (i := 33) (oi := _) (v := ?vz51u34) rfl (by kernel_rfl) (by kernel_rfl) (by kernel_rfl) (fun _ _ _ h => h) (Or.inl ⟨by kernel_rfl, ?hyz51u34⟩) hHeld ?restz51u34
    case hyz51u34 => (intro w hSw; (try dsimp only at hSw); go_simp; first | done | with_reducible rfl)
    try simp only [Act.put, List.getElem_toArray, List.getElem_cons_zero, List.getElem_cons_succ, List.setIfInBounds_toArray, List.set_cons_zero, List.set_cons_succ]
    refine wpAnyH_take (i := 34) (oi := _) (v := ?vz51u35) rfl (by kernel_rfl) (by kernel_rfl) (by kernel_rfl) (fun _ _ _ h => h) (Or.inl ⟨by kernel_rfl, ?hyz51u35⟩) hHeld ?restz51u35
    case hyz51u35 => (intro w hSw; (try dsimp only at hSw); go_simp; first | done | with_reducible rfl)
    try simp only [Act.put, List.getElem_toArray, List.getElem_cons_zero, List.getElem_cons_succ, List.setIfInBounds_toArray, List.set_cons_zero, List.set_cons_succ]
    refine wpAnyH_take (i := 35) (oi := _) (v := ?vz51u36) rfl (by kernel_rfl) (by kernel_rfl) (by kernel_rfl) (fun _ _ _ h => h) (Or.inl ⟨by kernel_rfl, ?hyz51u36⟩) hHeld ?restz51u36
    case hyz51u36 => (intro w hSw; (try dsimp only at hSw); go_simp; first | done | with_reducible rfl)
    try simp only [Act.put, List.getElem_toArray, List.getElem_cons_zero, List.getElem_cons_succ, List.setIfInBounds_toArray, List.set_cons_zero, List.set_cons_succ]
    refine wpAnyH_take (i := 36) (oi := _) (v := ?vz51u37) rfl (by kernel_rfl) (by kernel_rfl) (by kernel_rfl) (fun _ _ _ h => h) (Or.inl ⟨by kernel_rfl, ?hyz51u37⟩) hHeld ?restz51u37
    case hyz51u37 => (intro w hSw; (try dsimp only at hSw); go_simp; first | done | with_reducible rfl)
    try simp only [Act.put, List.getElem_toArray, List.getElem_cons_zero, List.getElem_cons_succ, List.setIfInBounds_toArray, List.set_cons_zero, List.set_cons_succ]
    refine wpAnyH_take (i := 37) (oi := _) (v := ?vz51u38) rfl (by kernel_rfl) (by kernel_rfl) (by kernel_rfl) (fun _ _ _ h => h) (Or.inl ⟨by kernel_rfl, ?hyz51u38⟩) hHeld ?restz51u38
    case hyz51u38 => (intro w hSw; (try dsimp only at hSw); go_simp; first | done | with_reducible rfl)
    try simp only [Act.put, List.getElem_toArray, List.getElem_cons_zero, List.getElem_cons_succ, List.setIfInBounds_toArray, List.set_cons_zero, List.set_cons_succ]
    refine wpAnyH_take (i := 41) (oi := _) (v := ?vz51u39) rfl (by kernel_rfl) (by kernel_rfl) (by kernel_rfl) (fun _ _ _ h => h) (Or.inl ⟨by kernel_rfl, ?hyz51u39⟩) hHeld ?restz51u39
    case hyz51u39 => (intro w hSw; (try dsimp only at hSw); go_simp; first | done | with_reducible rfl)
    try simp only [Act.put, List.getElem_toArray, List.getElem_cons_zero, List.getElem_cons_succ, List.setIfInBounds_toArray, List.set_cons_zero, List.set_cons_succ]
    refine wpAnyH_take (i := 42) (oi := _) (v := ?vz51u40) rfl (by kernel_rfl) (by kernel_rfl) (by kernel_rfl) (fun _ _ _ h => h) (Or.inl ⟨by kernel_rfl, ?hyz51u40⟩) hHeld ?restz51u40
    case hyz51u40 => (intro w hSw; (try dsimp only at hSw); go_simp; first | done | with_reducible rfl)
    try simp only [Act.put, List.getElem_toArray, List.getElem_cons_zero, List.getElem_cons_succ, List.setIfInBounds_toArray, List.set_cons_zero, List.set_cons_succ]
    refine wpAnyH_take (i := 43) (oi := _) (v := ?vz51u41) rfl (by kernel_rfl) (by kernel_rfl) (by kernel_rfl) (fun _ _ _ h => h) (Or.inl ⟨by kernel_rfl, ?hyz51u41⟩) hHeld ?restz51u41
    case hyz51u41 => (intro w hSw; (try dsimp only at hSw); go_simp; first | done | with_reducible rfl)
    try simp only [Act.put, List.getElem_toArray, List.getElem_cons_zero, List.getElem_cons_succ, List.setIfInBounds_toArray, List.set_cons_zero, List.set_cons_succ]
    refine wpAnyH_take (i := 44) (oi := _) (v := ?vz51u42) rfl (by kernel_rfl) (by kernel_rfl) (by kernel_rfl) (fun _ _ _ h => h) (Or.inl ⟨by kernel_rfl, ?hyz51u42⟩) hHeld ?restz51u42
    case hyz51u42 => (intro w hSw; (try dsimp only at hSw); go_simp; first | done | with_reducible rfl)
    try simp only [Act.put, List.getElem_toArray, List.getElem_cons_zero, List.getElem_cons_succ, List.setIfInBounds_toArray, List.set_cons_zero, List.set_cons_succ]
    refine wpAnyH_ready (rs := [38]) (by kernel_rfl) (by simp) ?_
    refine AllReadyH.cons (o := _) rfl (fun K0 hK0 => ?_) AllReadyH.nil
    go_simp
    go_at_call 13
    refine (CP1.out _ ((HX.out.kept B).kept (thenB (thenB (thenB (thenB (thenB (thenB (Below.refl _ _).drew bz51v3) bz51v12) bz51v21) bz51v22) bz51v32) bz51v33))).mono ?_
    rintro e wz51v43 ⟨cp, dp, rfl, bz51v43⟩
    refine hK0.out _ _ (K.out _ (thenB (thenB (thenB (thenB (thenB (thenB (thenB (Below.refl _ _).drew bz51v3) bz51v12) bz51v21) bz51v22) bz51v32) bz51v33) bz51v43)) (fun hHeld => ?_)
    clear hK0 K0
    try simp only [Act.put, List.getElem_toArray, List.getElem_cons_zero, List.getElem_cons_succ, List.setIfInBounds_toArray, List.set_cons_zero, List.set_cons_succ]
    refine wpAnyH_take (i := 39) (oi := _) (v := ?vz51u44) rfl (by kernel_rfl) (by kernel_rfl) (by kernel_rfl) (fun _ _ _ h => h) (Or.inl ⟨by kernel_rfl, ?hyz51u44⟩) hHeld ?restz51u44
    case hyz51u44 => (intro w hSw; (try dsimp only at hSw); go_simp; first | done | with_reducible rfl)
    try simp only [Act.put, List.getElem_toArray, List.getElem_cons_zero, List.getElem_cons_succ, List.setIfInBounds_toArray, List.set_cons_zero, List.set_cons_succ]
    refine wpAnyH_take (i := 40) (oi := _) (v := ?vz51u45) rfl (by kernel_rfl) (by kernel_rfl) (by kernel_rfl) (fun _ _ _ h => h) (Or.inl ⟨by kernel_rfl, ?hyz51u45⟩) hHeld ?restz51u45
    case hyz51u45 => (intro w hSw; (try dsimp only at hSw); go_simp; first | done | with_reducible rfl)
    try simp only [Act.put, List.getElem_toArray, List.getElem_cons_zero, List.getElem_cons_succ, List.setIfInBounds_toArray, List.set_cons_zero, List.set_cons_succ]
    refine wpAnyH_ready (rs := [45]) (by kernel_rfl) (by simp) ?_
    refine AllReadyH.cons (o := _) rfl (fun K0 hK0 => ?_) AllReadyH.nil
    go_simp
    go_at_call 13
    refine (CP2.out c1 d1 _ (R1.kept (thenB (thenB (thenB (thenB (thenB (thenB (thenB (Below.refl _ _).drew bz51v3) bz51v12) bz51v21) bz51v22) bz51v32) bz51v33) bz51v43))).mono ?_
    rintro e wz51v46 ⟨cp2, dp2, rfl, bz51v46⟩
    refine hK0.out _ _ (K.out _ (thenB (thenB (thenB (thenB (thenB (thenB (thenB (thenB (Below.refl _ _).drew bz51v3) bz51v12) bz51v21) bz51v22) bz51v32) bz51v33) bz51v43) bz51v46)) (fun hHeld => ?_)
    clear hK0 K0
    try simp only [Act.put, List.getElem_toArray, List.getElem_cons_zero, List.getElem_cons_succ, List.setIfInBounds_toArray, List.set_cons_zero, List.set_cons_succ]
    refine wpAnyH_take (i := 46) (oi := _) (v := ?vz51u47) rfl (by kernel_rfl) (by kernel_rfl) (by kernel_rfl) (fun _ _ _ h => h) (Or.inl ⟨by kernel_rfl, ?hyz51u47⟩) hHeld ?restz51u47
    case hyz51u47 => (intro w hSw; (try dsimp only at hSw); go_simp; first | done | with_reducible rfl)
    try simp only [Act.put, List.getElem_toArray, List.getElem_cons_zero, List.getElem_cons_succ, List.setIfInBounds_toArray, List.set_cons_zero, List.set_cons_succ]
    refine wpAnyH_take (i := 47) (oi := _) (v := ?vz51u48) rfl (by kernel_rfl) (by kernel_rfl) (by kernel_rfl) (fun _ _ _ h => h) (Or.inl ⟨by kernel_rfl, ?hyz51u48⟩) hHeld ?restz51u48
    case hyz51u48 => (intro w hSw; (try dsimp only at hSw); go_simp; first | done | with_reducible rfl)
    try simp only [Act.put, List.getElem_toArray, List.getElem_cons_zero, List.getElem_cons_succ, List.setIfInBounds_toArray, List.set_cons_zero, List.set_cons_succ]
    refine wpAnyH_take (i := 48) (oi := _) (v := ?vz51u49) rfl (by kernel_rfl) (by kernel_rfl) (by kernel_rfl) (fun _ _ _ h => h) (Or.inl ⟨by kernel_rfl, ?hyz51u49⟩) hHeld ?restz51u49
    case hyz51u49 => (intro w hSw; (try dsimp only at hSw); go_simp; first | done | with_reducible rfl)
    try simp only [Act.put, List.getElem_toArray, List.getElem_cons_zero, List.getElem_cons_succ, List.setIfInBounds_toArray, List.set_cons_zero, List.set_cons_succ]
    refine wpAnyH_take (i := 49) (oi := _) (v := ?vz51u50) rfl (by kernel_rfl) (by kernel_rfl) (by kernel_rfl) (fun _ _ _ h => h) (Or.inl ⟨by kernel_rfl, ?hyz51u50⟩) hHeld ?restz51u50
    case hyz51u50 => (intro w hSw; (try dsimp only at hSw); go_simp; first | done | with_reducible rfl)
    try simp only [Act.put, List.getElem_toArray, List.getElem_cons_zero, List.getElem_cons_succ, List.setIfInBounds_toArray, List.set_cons_zero, List.set_cons_succ]
    refine wpAnyH_take (i := 50) (oi := _) (v := ?vz51u51) rfl (by kernel_rfl) (by kernel_rfl) (by kernel_rfl) (fun _ _ _ h => h) (Or.inl ⟨by kernel_rfl, ?hyz51u51⟩) hHeld ?restz51u51
    case hyz51u51 => (intro w hSw; (try dsimp only at hSw); go_simp; first | done | with_reducible rfl)
    try simp only [Act.put, List.getElem_toArray, List.getElem_cons_zero, List.getElem_cons_succ, List.setIfInBounds_toArray, List.set_cons_zero, List.set_cons_succ]
    refine wpAnyH_take (i := 51) (oi := _) (v := ?vz51u52) rfl (by kernel_rfl) (by kernel_rfl) (by kernel_rfl) (fun _ _ _ h => h) (Or.inl ⟨by kernel_rfl, ?hyz51u52⟩) hHeld ?restz51u52
    case hyz51u52 => (intro w hSw; (try dsimp only at hSw); go_simp; first | done | with_reducible rfl)
    try simp only [Act.put, List.getElem_toArray, List.getElem_cons_zero, List.getElem_cons_succ, List.setIfInBounds_toArray, List.set_cons_zero, List.set_cons_succ]
    refine wpAnyH_take (i := 52) (oi := _) (v := ?vz51u53) rfl (by kernel_rfl) (by kernel_rfl) (by kernel_rfl) (fun _ _ _ h => h) (Or.inl ⟨by kernel_rfl, ?hyz51u53⟩) hHeld ?restz51u53
    case hyz51u53 => (intro w hSw; (try dsimp only at hSw); go_simp; first | done | with_reducible rfl)
    try simp only [Act.put, List.getElem_toArray, List.getElem_cons_zero, List.getElem_cons_succ, List.setIfInBounds_toArray, List.set_cons_zero, List.set_cons_succ]
    refine wpAnyH_take (i := 53) (oi := _) (v := ?vz51u54) rfl (by kernel_rfl) (by kernel_rfl) (by kernel_rfl) (fun _ _ _ h => h) (Or.inl ⟨by kernel_rfl, ?hyz51u54⟩) hHeld ?restz51u54
    case hyz51u54 => (intro w hSw; (try dsimp only at hSw); go_simp; first | done | with_reducible rfl)
    try simp only [Act.put, List.getElem_toArray, List.getElem_cons_zero, List.getElem_cons_succ, List.setIfInBounds_toArray, List.set_cons_zero, List.set_cons_succ]
    refine wpAnyH_take (i := 54) (oi := _) (v := ?vz51u55) rfl (by kernel_rfl) (by kernel_rfl) (by kernel_rfl) (fun _ _ _ h => h) (Or.inl ⟨by kernel_rfl, ?hyz51u55⟩) hHeld ?restz51u55
    case hyz51u55 => (intro w hSw; (try dsimp only at hSw); go_simp; first | done | with_reducible rfl)
    try simp only [Act.put, List.getElem_toArray, List.getElem_cons_zero, List.getElem_cons_succ, List.setIfInBounds_toArray, List.set_cons_zero, List.set_cons_succ]
    refine wpAnyH_take (i := 55) (oi := _) (v := ?vz51u56) rfl (by kernel_rfl) (by kernel_rfl) (by kernel_rfl) (fun _ _ _ h => h) (Or.inl ⟨by kernel_rfl, ?hyz51u56⟩) hHeld ?restz51u56
    case hyz51u56 => (intro w hSw; (try dsimp only at hSw); go_simp; first | done | with_reducible rfl)
    try simp only [Act.put, List.getElem_toArray, List.getElem_cons_zero, List.getElem_cons_succ, List.setIfInBounds_toArray, List.set_cons_zero, List.set_cons_succ]
    refine wpAnyH_take (i := 56) (oi := _) (v := ?vz51u57) rfl (by kernel_rfl) (by kernel_rfl) (by kernel_rfl) (fun _ _ _ h => h) (Or.inl ⟨by kernel_rfl, ?hyz51u57⟩) hHeld ?restz51u57
    case hyz51u57 => (intro w hSw; (try dsimp only at hSw); go_simp; first | done | with_reducible rfl)
    try simp only [Act.put, List.getElem_toArray, List.getElem_cons_zero, List.getElem_cons_succ, List.setIfInBounds_toArray, List.set_cons_zero, List.set_cons_succ]
    refine wpAnyH_take (i := 57) (oi := _) (v := ?vz51u58) rfl (by kernel_rfl) (by kernel_rfl) (by kernel_rfl) (fun _ _ _ h => h) (Or.inl ⟨by kernel_rfl, ?hyz51u58⟩) hHeld ?restz51u58
    case hyz51u58 => (intro w hSw; (try dsimp only at hSw); go_simp; first | done | with_reducible rfl)
    try simp only [Act.put, List.getElem_toArray, List.getElem_cons_zero, List.getElem_cons_succ, List.setIfInBounds_toArray, List.set_cons_zero, List.set_cons_succ]
    refine wpAnyH_take (i := 58) (oi := _) (v := ?vz51u59) rfl (by kernel_rfl) (by kernel_rfl) (by kernel_rfl) (fun _ _ _ h => h) (Or.inl ⟨by kernel_rfl, ?hyz51u59⟩) hHeld ?restz51u59
    case hyz51u59 => (intro w hSw; (try dsimp only at hSw); go_simp; first | done | with_reducible rfl)
    try simp only [Act.put, List.getElem_toArray, List.getElem_cons_zero, List.getElem_cons_succ, List.setIfInBounds_toArray, List.set_cons_zero, List.set_cons_succ]
    refine wpAnyH_take (i := 59) (oi := _) (v := ?vz51u60) rfl (by kernel_rfl) (by kernel_rfl) (by kernel_rfl) (fun _ _ _ h => h) (Or.inl ⟨by kernel_rfl, ?hyz51u60⟩) hHeld ?restz51u60
    case hyz51u60 => (intro w hSw; (try dsimp only at hSw); go_simp; first | done | with_reducible rfl)
    try simp only [Act.put, List.getElem_toArray, List.getElem_cons_zero, List.getElem_cons_succ, List.setIfInBounds_toArray, List.set_cons_zero, List.set_cons_succ]
    refine wpAnyH_take (i := 60) (oi := _) (v := ?vz51u61) rfl (by kernel_rfl) (by kernel_rfl) (by kernel_rfl) (fun _ _ _ h => h) (Or.inl ⟨by kernel_rfl, ?hyz51u61⟩) hHeld ?restz51u61
    case hyz51u61 => (intro w hSw; (try dsimp only at hSw); go_simp; first | done | with_reducible rfl)
    try simp only [Act.put, List.getElem_toArray, List.getElem_cons_zero, List.getElem_cons_succ, List.setIfInBounds_toArray, List.set_cons_zero, List.set_cons_succ]
    refine wpAnyH_take (i := 61) (oi := _) (v := ?vz51u62) rfl (by kernel_rfl) (by kernel_rfl) (by kernel_rfl) (fun _ _ _ h => h) (Or.inl ⟨by kernel_rfl, ?hyz51u62⟩) hHeld ?restz51u62
    case hyz51u62 => (intro w hSw; (try dsimp only at hSw); go_simp; first | done | with_reducible rfl)
    try simp only [Act.put, List.getElem_toArray, List.getElem_cons_zero, List.getElem_cons_succ, List.setIfInBounds_toArray, List.set_cons_zero, List.set_cons_succ]
    refine wpAnyH_take (i := 62) (oi := _) (v := ?vz51u63) rfl (by kernel_rfl) (by kernel_rfl) (by kernel_rfl) (fun _ _ _ h => h) (Or.inl ⟨by kernel_rfl, ?hyz51u63⟩) hHeld ?restz51u63
    case hyz51u63 => (intro w hSw; (try dsimp only at hSw); go_simp; first | done | with_reducible rfl)
    try simp only [Act.put, List.getElem_toArray, List.getElem_cons_zero, List.getElem_cons_succ, List.setIfInBounds_toArray, List.set_cons_zero, List.set_cons_succ]
    refine wpAnyH_take (i := 63) (oi := _) (v := ?vz51u64) rfl (by kernel_rfl) (by kernel_rfl) (by kernel_rfl) (fun _ _ _ h => h) (Or.inl ⟨by kernel_rfl, ?hyz51u64⟩) hHeld ?restz51u64
    case hyz51u64 => (intro w hSw; (try dsimp only at hSw); go_simp; first | done | with_reducible rfl)
    try simp only [Act.put, List.getElem_toArray, List.getElem_cons_zero, List.getElem_cons_succ, List.setIfInBounds_toArray, List.set_cons_zero, List.set_cons_succ]
    refine wpAnyH_take (i := 64) (oi := _) (v := ?vz51u65) rfl (by kernel_rfl) (by kernel_rfl) (by kernel_rfl) (fun _ _ _ h => h) (Or.inl ⟨by kernel_rfl, ?hyz51u65⟩) hHeld ?restz51u65
    case hyz51u65 => (intro w hSw; (try dsimp only at hSw); go_simp; first | done | with_reducible rfl)
    try simp only [Act.put, List.getElem_toArray, List.getElem_cons_zero, List.getElem_cons_succ, List.setIfInBounds_toArray, List.set_cons_zero, List.set_cons_succ]
    refine wpAnyH_take (i := 65) (oi := _) (v := ?vz51u66) rfl (by kernel_rfl) (by kernel_rfl) (by kernel_rfl) (fun _ _ _ h => h) (Or.inl ⟨by kernel_rfl, ?hyz51u66⟩) hHeld ?restz51u66
    case hyz51u66 => (intro w hSw; (try dsimp only at hSw); go_simp; first | done | with_reducible rfl)
    try simp only [Act.put, List.getElem_toArray, List.getElem_cons_zero, List.getElem_cons_succ, List.setIfInBounds_toArray, List.set_cons_zero, List.set_cons_succ]
    refine wpAnyH_take (i := 66) (oi := _) (v := ?vz51u67) rfl (by kernel_rfl) (by kernel_rfl) (by kernel_rfl) (fun _ _ _ h => h) (Or.inl ⟨by kernel_rfl, ?hyz51u67⟩) hHeld ?restz51u67
    case hyz51u67 => (intro w hSw; (try dsimp only at hSw); go_simp; first | done | with_reducible rfl)
    try simp only [Act.put, List.getElem_toArray, List.getElem_cons_zero, List.getElem_cons_succ, List.setIfInBounds_toArray, List.set_cons_zero, List.set_cons_succ]
    refine wpAnyH_take (i := 67) (oi := _) (v := ?vz51u68) rfl (by kernel_rfl) (by kernel_rfl) (by kernel_rfl) (fun _ _ _ h => h) (Or.inl ⟨by kernel_rfl, ?hyz51u68⟩) hHeld ?restz51u68
    case hyz51u68 => (intro w hSw; (try dsimp only at hSw); go_simp; first | done | with_reducible rfl)
    try simp only [Act.put, List.getElem_toArray, List.getElem_cons_zero, List.getElem_cons_succ, List.setIfInBounds_toArray, List.set_cons_zero, List.set_cons_succ]
    refine wpAnyH_take (i := 68) (oi := _) (v := ?vz51u69) rfl (by kernel_rfl) (by kernel_rfl) (by kernel_rfl) (fun _ _ _ h => h) (Or.inl ⟨by kernel_rfl, ?hyz51u69⟩) hHeld ?restz51u69
    case hyz51u69 => (intro w hSw; (try dsimp only at hSw); go_simp; first | done | with_reducible rfl)
    try simp only [Act.put, List.getElem_toArray, List.getElem_cons_zero, List.getElem_cons_succ, List.setIfInBounds_toArray, List.set_cons_zero, List.set_cons_succ]
    refine wpAnyH_take (i := 69) (oi := _) (v := ?vz51u70) rfl (by kernel_rfl) (by kernel_rfl) (by kernel_rfl) (fun _ _ _ h => h) (Or.inl ⟨by kernel_rfl, ?hyz51u70⟩) hHeld ?restz51u70
    case hyz51u70 => (intro w hSw; (try dsimp only at hSw); go_simp; first | done | with_reducible rfl)
    try simp only [Act.put, List.getElem_toArray, List.getElem_cons_zero, List.getElem_cons_succ, List.setIfInBounds_toArray, List.set_cons_zero, List.set_cons_succ]
    refine wpAnyH_done (by kernel_rfl) ?_ _
    clear K hHeld
    have bacc : Below (w52.alloc (.cells #[.int .i64 0, .int .i64 (m : Int), .slice c3 m0 d3] 28)).heap.size (w52.alloc (.cells #[.int .i64 0, .int .i64 (m : Int), .slice c3 m0 d3] 28)) wz51v46 := (thenB (thenB (thenB (thenB (thenB (thenB (thenB (thenB (Below.refl _ _).drew bz51v3) bz51v12) bz51v21) bz51v22) bz51v32) bz51v33) bz51v43) bz51v46)
    replace VR := VR.kept bacc
    replace VB := VB.kept bacc
    replace R1 := R1.kept bacc
    replace B := thenB B bacc
    have Sz51 := (bacc).size
    clear bacc
    simp only [World.size_alloc] at Sz51
    clear bz51v3 bz51v12 bz51v21 bz51v22 bz51v32 bz51v33 bz51v43 bz51v46
    have Bo := B
    have HF := Hid.mk (HB0.out.trans (B.mono HB0.out.size))
    go_wp2
    go_ret
    exact ⟨rfl, HF.out⟩

end Go.Proofs.YthjaehcfakjemaaDoor
