/- the law FnWire. -/
import Derived.Test.YtfldgeokigcokaaGreatDrW7
import Derived.Test.YtfldgeokigcokaaGreatRdrI
import Derived.Test.YtfldgeokigcokaaGreatFWc
import Derived.Test.YtfldgeokigcokaaGreatFWe
import Derived.Test.YtfldgeokigcokaaGreatFWn
import Derived.Test.YtfldgeokigcokaaGreatFWs
import Derived.Deep.RegionHeld3
namespace Go.Proofs.YtfldgeokigcokaaGreat
open Go.RowKit

theorem field_b0W (k v : Value) (w : World) : (Instr.field 31 (.agg #[k, v]) 0).run Tryz.prog w = .ok k w := by kernel_rfl
theorem field_t0W (a b c : Value) (w : World) : (Instr.field 28 (.agg #[a, b, c]) 0).run Tryz.prog w = .ok a w := by kernel_rfl
theorem field_i1W (a b : Value) (w : World) : (Instr.field 37 (.agg #[a, b]) 1).run Tryz.prog w = .ok b w := by kernel_rfl

theorem ak_in {xs : List T4} (hv : tfC xs = 0) {m : Nat} (h : m < xs.length) : akC xs (m : Int) = 0 := by
  rcases ak_ways xs (m : Int) with ⟨h1, _⟩ | ⟨_, h1, _⟩ | ⟨_, _, h1⟩
  · exact absurd hv h1
  · have : btw (m : Int) 0 ((xs.length : Int) - 1) = true := btw_iff.2 (by omega)
    rw [this] at h1; cases h1
  · exact h1

theorem wire_same {xs : List T4} {q : Int} (hc : enC xs q = 0) {P : Put} (hP : deT [] (enB xs q) = P) : P.c = 0 ∧ tfC P.l = 0 ∧ smT xs q P.l P.k = true ∧ dpV xs q = dpV P.l P.k := by
  obtain ⟨h1, C, hv, h0, h2⟩ := wire_there hc
  rw [hP] at h1 C
  obtain ⟨m, rfl⟩ := Int.eq_ofNat_of_zero_le h0
  obtain ⟨j, hj⟩ := Int.eq_ofNat_of_zero_le C.k0
  have hd := C.den
  have hk1 := C.k1
  rw [hj] at hd hk1 ⊢
  simp only [Int.toNat_natCast] at hd
  have a1 := ak_in hv (m := m) (by omega)
  have a2 := ak_in C.right (m := j) (by omega)
  refine ⟨h1, C.right, ?_, ?_⟩
  · unfold smT
    rw [if_pos a1, if_pos a2, Int.toNat_natCast, Int.toNat_natCast, hd]; simp
  · unfold dpV
    rw [if_pos a1, if_pos a2, Int.toNat_natCast, Int.toNat_natCast, hd]

set_option maxRecDepth 20000 in
set_option maxHeartbeats 8000000 in
theorem xWr_walk (a : Option Addr) (n ca : Nat) (xs : List Int) (w : World) (hR : Rd .u8 w a xs) (hB : Bytes xs) (hn : xs.length = n) :
    Calls Tryz.prog 3 #[.slice a n ca] w fun e w' => e = .returned (.bool true) ∧ Below w.heap.size w w' := by
  by_cases hbig : (n : Int) ≤ 1048576
  · go_enter Tryz.func3, Tryz.ntmps3
    go_wp2_with (first | (go_at_call 4; go_in) | fail)
    refine (drawDecodeTerm_ok a n ca xs _ hR hB hn (by omega)).mono ?_
    rintro e w1 ⟨c, d, k, tx, c2, d2, m, ys, rfl, ⟨hl, hk, hkd, hnc, hok⟩, hm, hm4, hmd, hyb, hns, RT, R, B⟩
    have RA := hR.kept B
    clear hR
    have CI := fun w h h2 => implDecodeTerm_ok c k d tx c2 m d2 ys w h hl (by omega) hok h2 hyb hm (by omega) hmd
    have CS := fun w h h2 => specDecodeTerm_ok c k d tx c2 m d2 ys w h hl (by omega) hkd hnc h2 hyb hm (by omega)
    have CV := fun w h => convert_any (c := c2) (n := m) (d := d2) (ns := ys) (w := w) h hns hm
    obtain ⟨P, hP⟩ : ∃ P, deT tx ys = P := ⟨_, rfl⟩
    rw [hP] at CI CS
    obtain ⟨pc, pk, pl⟩ := P
    simp only at CI CS
    obtain ⟨pn, hpn⟩ : ∃ l, pl.length = l := ⟨_, rfl⟩
    rw [hpn] at CI CS
    clear hok hnc
    by_cases hc0 : pc = 0
    · skip
      obtain ⟨w1e, w2e⟩ := wire_back hyb (by rw [hP]; exact hc0)
      rw [hP] at w1e w2e
      simp only at w1e w2e
      subst hc0
      have hpt : tfC pl = 0 := by
        rcases de_ways tx ys with ⟨h, e⟩ | ⟨_, _, e⟩ | ⟨_, _, _, e⟩ | ⟨t, hv, _, hw, e⟩
        · rw [hP] at e; simp only [Put.mk.injEq] at e; exact absurd e.1.symm h
        · rw [hP] at e; simp only [Put.mk.injEq] at e; omega
        · rw [hP] at e; simp only [Put.mk.injEq] at e; omega
        · rcases ptr_ways t tx hv ((whole_iff hyb t).1 hw).1 with ⟨e2, _⟩ | ⟨_, C⟩
          · rw [e2, hP] at e; simp only [Put.mk.injEq] at e; omega
          · rw [← e, hP] at C; exact C.right
      have hpl4 : pn ≤ 400 := by rw [← hpn]; exact (tfC_zero hpt).1
      have hokp := tfC_ok hpt
      have CE := fun c d w h hc => implEncodeTerm_ok c pn d pl pk w h hpn (by unfold maxLen; omega) hc hokp
      rw [w1e, w2e, hm] at CE
      have HM := Hid.mk hm
      have HPN := Hid.mk hpn
      replace CI := Hid.mk CI
      replace CE := Hid.mk CE
      replace CV := Hid.mk CV
      clear CS w1e w2e hpt hokp hP hm hpn
      have hq := field_b1W
      have Bo := B
      go_wp2_with fail
      refine (CI.out _ RT R).mono ?_
      rintro e w2 ⟨c3, d3, rfl, O3, b2⟩
      have S2 := b2.size
      replace RT := RT.kept b2
      replace R := R.kept b2
      replace RA := RA.kept b2
      replace B := thenB B b2
      clear b2
      have Bo := B
      have hc3 := ownTerm_le O3
      rw [HPN.out] at hc3
      replace RT := RT.kept (belowA w2 (.cells #[.int .i64 0, .int .i64 pk, .slice c3 pn d3] 28))
      replace R := R.kept (belowA w2 (.cells #[.int .i64 0, .int .i64 pk, .slice c3 pn d3] 28))
      replace RA := RA.kept (belowA w2 (.cells #[.int .i64 0, .int .i64 pk, .slice c3 pn d3] 28))
      replace O3 := O3.kept (belowA w2 (.cells #[.int .i64 0, .int .i64 pk, .slice c3 pn d3] 28))
      replace B := thenB B (belowA w2 (.cells #[.int .i64 0, .int .i64 pk, .slice c3 pn d3] 28))
      have VD := V.new w2 [.int .i64 0, .int .i64 pk, .slice c3 pn d3] 28
      have K : ∀ w' : World, Below (w2.alloc (.cells #[.int .i64 0, .int .i64 pk, .slice c3 pn d3] 28)).heap.size (w2.alloc (.cells #[.int .i64 0, .int .i64 pk, .slice c3 pn d3] 28)) w' → (w'.cell? ⟨w2.heap.size, 0, none⟩ = some (.int .i64 0)) := fun w' h => (VD.kept h).2.1 0 (by simp)
      have K := Hid.mk K
      obtain ⟨s_VD, f_VD, z_VD⟩ := VD.open
      go_wp2_with fail
      clear s_VD f_VD z_VD
      refine wp_region_held_drew (S := (fun w' => w'.cell? ⟨w2.heap.size, 0, none⟩ = some (.int .i64 0))) (by kernel_rfl) (K.out _ (Below.refl _ _).drew) (fun hHeld => ?_)
      refine wpAnyH_take (i := 0) (oi := _) (v := ?vynu1) rfl (by kernel_rfl) (by kernel_rfl) (by kernel_rfl) (fun _ _ _ h => h) (Or.inl ⟨by kernel_rfl, ?hyynu1⟩) hHeld ?restynu1
      case hyynu1 => (intro w hSw; (try dsimp only at hSw); go_simp; first | done | with_reducible rfl)
      try simp only [Act.put, List.getElem_toArray, List.getElem_cons_zero, List.setIfInBounds_toArray, List.set_cons_zero, List.set_cons_succ]
      refine wpAnyH_take (i := 1) (oi := _) (v := ?vynu2) rfl (by kernel_rfl) (by kernel_rfl) (by kernel_rfl) (fun _ _ _ h => h) (Or.inl ⟨by kernel_rfl, ?hyynu2⟩) hHeld ?restynu2
      case hyynu2 => (intro w hSw; (try dsimp only at hSw); go_simp; first | done | with_reducible rfl)
      try simp only [Act.put, List.getElem_toArray, List.getElem_cons_zero, List.getElem_cons_succ, List.setIfInBounds_toArray, List.set_cons_zero, List.set_cons_succ]
      refine wpAnyH_take (i := 2) (oi := _) (v := ?vynu3) rfl (by kernel_rfl) (by kernel_rfl) (by kernel_rfl) (fun _ _ _ h => h) (Or.inl ⟨by kernel_rfl, ?hyynu3⟩) hHeld ?restynu3
      case hyynu3 => (intro w hSw; (try dsimp only at hSw); go_simp; first | done | with_reducible rfl)
      try simp only [Act.put, List.getElem_toArray, List.getElem_cons_zero, List.getElem_cons_succ, List.setIfInBounds_toArray, List.set_cons_zero, List.set_cons_succ]
      refine wpAnyH_take (i := 3) (oi := _) (v := ?vynu4) rfl (by kernel_rfl) (by kernel_rfl) (by kernel_rfl) (fun _ _ _ h => h) (Or.inl ⟨by kernel_rfl, ?hyynu4⟩) hHeld ?restynu4
      case hyynu4 => (intro w hSw; (try dsimp only at hSw); go_simp; first | done | with_reducible rfl)
      try simp only [Act.put, List.getElem_toArray, List.getElem_cons_zero, List.getElem_cons_succ, List.setIfInBounds_toArray, List.set_cons_zero, List.set_cons_succ]
      refine wpAnyH_take (i := 4) (oi := _) (v := undef) rfl (by kernel_rfl) (by kernel_rfl) (by kernel_rfl) (fun _ _ _ h => h) (Or.inr ⟨by rfl, rfl⟩) hHeld ?_
      try simp only [Act.put, List.getElem_toArray, List.getElem_cons_zero, List.getElem_cons_succ, List.setIfInBounds_toArray, List.set_cons_zero, List.set_cons_succ]
      refine wpAnyH_take (i := 5) (oi := _) (v := undef) rfl (by kernel_rfl) (by kernel_rfl) (by kernel_rfl) (fun _ _ _ h => h) (Or.inr ⟨by rfl, rfl⟩) hHeld ?_
      try simp only [Act.put, List.getElem_toArray, List.getElem_cons_zero, List.getElem_cons_succ, List.setIfInBounds_toArray, List.set_cons_zero, List.set_cons_succ]
      refine wpAnyH_take (i := 6) (oi := _) (v := undef) rfl (by kernel_rfl) (by kernel_rfl) (by kernel_rfl) (fun _ _ _ h => h) (Or.inr ⟨by rfl, rfl⟩) hHeld ?_
      try simp only [Act.put, List.getElem_toArray, List.getElem_cons_zero, List.getElem_cons_succ, List.setIfInBounds_toArray, List.set_cons_zero, List.set_cons_succ]
      refine wpAnyH_take (i := 7) (oi := _) (v := undef) rfl (by kernel_rfl) (by kernel_rfl) (by kernel_rfl) (fun _ _ _ h => h) (Or.inr ⟨by rfl, rfl⟩) hHeld ?_
      try simp only [Act.put, List.getElem_toArray, List.getElem_cons_zero, List.getElem_cons_succ, List.setIfInBounds_toArray, List.set_cons_zero, List.set_cons_succ]
      refine wpAnyH_take (i := 8) (oi := _) (v := undef) rfl (by kernel_rfl) (by kernel_rfl) (by kernel_rfl) (fun _ _ _ h => h) (Or.inr ⟨by rfl, rfl⟩) hHeld ?_
      try simp only [Act.put, List.getElem_toArray, List.getElem_cons_zero, List.getElem_cons_succ, List.setIfInBounds_toArray, List.set_cons_zero, List.set_cons_succ]
      refine wpAnyH_take (i := 9) (oi := _) (v := undef) rfl (by kernel_rfl) (by kernel_rfl) (by kernel_rfl) (fun _ _ _ h => h) (Or.inr ⟨by rfl, rfl⟩) hHeld ?_
      try simp only [Act.put, List.getElem_toArray, List.getElem_cons_zero, List.getElem_cons_succ, List.setIfInBounds_toArray, List.set_cons_zero, List.set_cons_succ]
      refine wpAnyH_take (i := 10) (oi := _) (v := undef) rfl (by kernel_rfl) (by kernel_rfl) (by kernel_rfl) (fun _ _ _ h => h) (Or.inr ⟨by rfl, rfl⟩) hHeld ?_
      try simp only [Act.put, List.getElem_toArray, List.getElem_cons_zero, List.getElem_cons_succ, List.setIfInBounds_toArray, List.set_cons_zero, List.set_cons_succ]
      refine wpAnyH_take (i := 11) (oi := _) (v := ?vynu5) rfl (by kernel_rfl) (by kernel_rfl) (by kernel_rfl) (fun _ _ _ h => h) (Or.inl ⟨by kernel_rfl, ?hyynu5⟩) hHeld ?restynu5
      case hyynu5 => (intro w hSw; (try dsimp only at hSw); go_simp; first | done | with_reducible rfl)
      try simp only [Act.put, List.getElem_toArray, List.getElem_cons_zero, List.getElem_cons_succ, List.setIfInBounds_toArray, List.set_cons_zero, List.set_cons_succ]
      refine wpAnyH_done (by kernel_rfl) ?_ _
      have bacc : Below (w2.alloc (.cells #[.int .i64 0, .int .i64 pk, .slice c3 pn d3] 28)).heap.size (w2.alloc (.cells #[.int .i64 0, .int .i64 pk, .slice c3 pn d3] 28)) _ := (Below.refl _ _).drew
      replace VD := VD.kept bacc
      replace RT := RT.kept bacc
      replace R := R.kept bacc
      replace RA := RA.kept bacc
      replace O3 := O3.kept bacc
      replace B := thenB B bacc
      clear bacc K
      generalize (w2.alloc (.cells #[.int .i64 0, .int .i64 pk, .slice c3 pn d3] 28)).drew = wd3 at *
      have K : ∀ w' : World, Below wd3.heap.size wd3 w' → (w'.cell? ⟨w2.heap.size, 0, none⟩ = some (.int .i64 0) ∧ w'.cell? ⟨w2.heap.size, 1, none⟩ = some (.int .i64 pk) ∧ w'.cell? ⟨w2.heap.size, 2, none⟩ = some (.slice c3 pn d3) ∧ (convert 22 9 (.slice c2 m d2)).run Tryz.prog w' = .ok (.string (strOfNums ys)) w') := fun w' h => ⟨(VD.kept h).2.1 0 (by simp), (VD.kept h).2.1 1 (by simp), (VD.kept h).2.1 2 (by simp), CV.out _ (R.kept h)⟩
      have K := Hid.mk K
      obtain ⟨s_VD, f_VD, z_VD⟩ := VD.open
      go_wp2_with fail
      clear s_VD f_VD z_VD
      refine wp_region_held_drew (S := (fun w' => w'.cell? ⟨w2.heap.size, 0, none⟩ = some (.int .i64 0) ∧ w'.cell? ⟨w2.heap.size, 1, none⟩ = some (.int .i64 pk) ∧ w'.cell? ⟨w2.heap.size, 2, none⟩ = some (.slice c3 pn d3) ∧ (convert 22 9 (.slice c2 m d2)).run Tryz.prog w' = .ok (.string (strOfNums ys)) w')) (by kernel_rfl) (K.out _ (Below.refl _ _).drew) (fun hHeld => ?_)
      refine wpAnyH_take (i := 0) (oi := _) (v := ?vryu1) rfl (by kernel_rfl) (by kernel_rfl) (by kernel_rfl) (fun _ _ _ h => h) (Or.inl ⟨by kernel_rfl, ?hyryu1⟩) hHeld ?restryu1
      case hyryu1 => (intro w hSw; (try dsimp only at hSw); go_simp; first | done | with_reducible rfl)
      try simp only [Act.put, List.getElem_toArray, List.getElem_cons_zero, List.setIfInBounds_toArray, List.set_cons_zero, List.set_cons_succ]
      refine wpAnyH_take (i := 1) (oi := _) (v := ?vryu2) rfl (by kernel_rfl) (by kernel_rfl) (by kernel_rfl) (fun _ _ _ h => h) (Or.inl ⟨by kernel_rfl, ?hyryu2⟩) hHeld ?restryu2
      case hyryu2 => (intro w hSw; (try dsimp only at hSw); go_simp; first | done | with_reducible rfl)
      try simp only [Act.put, List.getElem_toArray, List.getElem_cons_zero, List.getElem_cons_succ, List.setIfInBounds_toArray, List.set_cons_zero, List.set_cons_succ]
      refine wpAnyH_take (i := 2) (oi := _) (v := ?vryu3) rfl (by kernel_rfl) (by kernel_rfl) (by kernel_rfl) (fun _ _ _ h => h) (Or.inl ⟨by kernel_rfl, ?hyryu3⟩) hHeld ?restryu3
      case hyryu3 => (intro w hSw; (try dsimp only at hSw); go_simp; first | done | with_reducible rfl)
      try simp only [Act.put, List.getElem_toArray, List.getElem_cons_zero, List.getElem_cons_succ, List.setIfInBounds_toArray, List.set_cons_zero, List.set_cons_succ]
      refine wpAnyH_take (i := 3) (oi := _) (v := ?vryu4) rfl (by kernel_rfl) (by kernel_rfl) (by kernel_rfl) (fun _ _ _ h => h) (Or.inl ⟨by kernel_rfl, ?hyryu4⟩) hHeld ?restryu4
      case hyryu4 => (intro w hSw; (try dsimp only at hSw); go_simp; first | done | with_reducible rfl)
      try simp only [Act.put, List.getElem_toArray, List.getElem_cons_zero, List.getElem_cons_succ, List.setIfInBounds_toArray, List.set_cons_zero, List.set_cons_succ]
      refine wpAnyH_take (i := 4) (oi := _) (v := ?vryu5) rfl (by kernel_rfl) (by kernel_rfl) (by kernel_rfl) (fun _ _ _ h => h) (Or.inl ⟨by kernel_rfl, ?hyryu5⟩) hHeld ?restryu5
      case hyryu5 => (intro w hSw; (try dsimp only at hSw); go_simp; first | done | with_reducible rfl)
      try simp only [Act.put, List.getElem_toArray, List.getElem_cons_zero, List.getElem_cons_succ, List.setIfInBounds_toArray, List.set_cons_zero, List.set_cons_succ]
      refine wpAnyH_take (i := 5) (oi := _) (v := ?vryu6) rfl (by kernel_rfl) (by kernel_rfl) (by kernel_rfl) (fun _ _ _ h => h) (Or.inl ⟨by kernel_rfl, ?hyryu6⟩) hHeld ?restryu6
      case hyryu6 => (intro w hSw; (try dsimp only at hSw); go_simp; first | done | with_reducible rfl)
      try simp only [Act.put, List.getElem_toArray, List.getElem_cons_zero, List.getElem_cons_succ, List.setIfInBounds_toArray, List.set_cons_zero, List.set_cons_succ]
      refine wpAnyH_take (i := 6) (oi := _) (v := ?vryu7) rfl (by kernel_rfl) (by kernel_rfl) (by kernel_rfl) (fun _ _ _ h => h) (Or.inl ⟨by kernel_rfl, ?hyryu7⟩) hHeld ?restryu7
      case hyryu7 => (intro w hSw; (try dsimp only at hSw); go_simp; first | done | with_reducible rfl)
      try simp only [Act.put, List.getElem_toArray, List.getElem_cons_zero, List.getElem_cons_succ, List.setIfInBounds_toArray, List.set_cons_zero, List.set_cons_succ]
      refine wpAnyH_take (i := 7) (oi := _) (v := ?vryu8) rfl (by kernel_rfl) (by kernel_rfl) (by kernel_rfl) (fun _ _ _ h => h) (Or.inl ⟨by kernel_rfl, ?hyryu8⟩) hHeld ?restryu8
      case hyryu8 => (intro w hSw; (try dsimp only at hSw); go_simp; first | done | with_reducible rfl)
      try simp only [Act.put, List.getElem_toArray, List.getElem_cons_zero, List.getElem_cons_succ, List.setIfInBounds_toArray, List.set_cons_zero, List.set_cons_succ]
      refine wpAnyH_take (i := 11) (oi := _) (v := ?vryu9) rfl (by kernel_rfl) (by kernel_rfl) (by kernel_rfl) (fun _ _ _ h => h) (Or.inl ⟨by kernel_rfl, ?hyryu9⟩) hHeld ?restryu9
      case hyryu9 => (intro w hSw; (try dsimp only at hSw); go_simp; first | done | with_reducible rfl)
      try simp only [Act.put, List.getElem_toArray, List.getElem_cons_zero, List.getElem_cons_succ, List.setIfInBounds_toArray, List.set_cons_zero, List.set_cons_succ]
      refine wpAnyH_take (i := 12) (oi := _) (v := ?vryu10) rfl (by kernel_rfl) (by kernel_rfl) (by kernel_rfl) (fun _ _ _ h => h) (Or.inl ⟨by kernel_rfl, ?hyryu10⟩) hHeld ?restryu10
      case hyryu10 => (intro w hSw; (try dsimp only at hSw); go_simp; first | done | with_reducible rfl)
      try simp only [Act.put, List.getElem_toArray, List.getElem_cons_zero, List.getElem_cons_succ, List.setIfInBounds_toArray, List.set_cons_zero, List.set_cons_succ]
      refine wpAnyH_ready (rs := [8]) (by kernel_rfl) (by simp) ?_
      refine AllReadyH.cons (o := _) rfl (fun K0 hK0 => ?_) AllReadyH.nil
      go_simp
      go_at_call 8
      refine (CE.out c3 d3 _ (O3.rd.kept (Below.refl _ _).drew) hc3).mono ?_
      rintro e wryv11 ⟨c6, d6, rfl, O6, bryv11⟩
      refine hK0.out _ _ (K.out _ (thenB (Below.refl _ _).drew bryv11)) (fun hHeld => ?_)
      clear hK0 K0
      try simp only [Act.put, List.getElem_toArray, List.getElem_cons_zero, List.getElem_cons_succ, List.setIfInBounds_toArray, List.set_cons_zero, List.set_cons_succ]
      refine wpAnyH_take (i := 9) (oi := _) (v := ?vryu12) rfl (by kernel_rfl) (by kernel_rfl) (by kernel_rfl) (fun _ _ _ h => h) (Or.inl ⟨by kernel_rfl, ?hyryu12⟩) hHeld ?restryu12
      case hyryu12 => (intro w hSw; (try dsimp only at hSw); go_simp; first | done | with_reducible rfl)
      try simp only [Act.put, List.getElem_toArray, List.getElem_cons_zero, List.getElem_cons_succ, List.setIfInBounds_toArray, List.set_cons_zero, List.set_cons_succ]
      have hv := convert_any (d := d6) O6.rd O6.noSpot HM.out
      refine wpAnyH_ready (rs := [10]) (by kernel_rfl) (by simp) ?_
      refine AllReadyH.cons (o := _) rfl (fun K0 hK0 => ?_) AllReadyH.nil
      go_simp
      refine hK0.out _ _ (hHeld) (fun hHeld => ?_)
      clear hK0 K0
      try simp only [Act.put, List.getElem_toArray, List.getElem_cons_zero, List.getElem_cons_succ, List.setIfInBounds_toArray, List.set_cons_zero, List.set_cons_succ]
      refine wpAnyH_take (i := 13) (oi := _) (v := ?vryu13) rfl (by kernel_rfl) (by kernel_rfl) (by kernel_rfl) (fun _ _ _ h => h) (Or.inl ⟨by kernel_rfl, ?hyryu13⟩) hHeld ?restryu13
      case hyryu13 => (intro w hSw; (try dsimp only at hSw); go_simp; first | done | with_reducible rfl)
      try simp only [Act.put, List.getElem_toArray, List.getElem_cons_zero, List.getElem_cons_succ, List.setIfInBounds_toArray, List.set_cons_zero, List.set_cons_succ]
      refine wpAnyH_take (i := 14) (oi := _) (v := ?vryu14) rfl (by kernel_rfl) (by kernel_rfl) (by kernel_rfl) (fun _ _ _ h => h) (Or.inl ⟨by kernel_rfl, ?hyryu14⟩) hHeld ?restryu14
      case hyryu14 => (intro w hSw; (try dsimp only at hSw); go_simp; first | done | with_reducible rfl)
      try simp only [Act.put, List.getElem_toArray, List.getElem_cons_zero, List.getElem_cons_succ, List.setIfInBounds_toArray, List.set_cons_zero, List.set_cons_succ]
      refine wpAnyH_done (by kernel_rfl) ?_ _
      have bacc : Below wd3.heap.size wd3 _ := (thenB (Below.refl _ _).drew bryv11)
      replace VD := VD.kept bacc
      replace RT := RT.kept bacc
      replace R := R.kept bacc
      replace RA := RA.kept bacc
      replace O3 := O3.kept bacc
      replace B := thenB B bacc
      clear bacc K
      clear O6 O3 VD R RT CI CE hv
      go_wp2_with fail
      refine (drawEncodeTerm_ok a n ca xs _ RA hB hn (by omega)).mono ?_
      rintro e w20 ⟨c20, d20, k20, tb, q, rfl, ⟨hl20, hk20, hkd20, hnc20, hok20⟩, hq20, R20, b20⟩
      replace B := thenB B b20
      clear b20 RA
      have CF := fun w h => implEncodeTerm_ok c20 k20 d20 tb q w h hl20 (by unfold maxLen; omega) hkd20 hok20
      have CT := fun w h => specEncodeTerm_ok c20 k20 d20 tb q w h hl20 (by unfold maxLen; omega) hkd20
      have hfl := Hid.mk (en_len7 tb q)
      have hPb := Hid.mk (bytes_enB (xs := tb) (q := q))
      by_cases hk : enC tb q = 0
      · skip
        obtain ⟨P, hP⟩ : ∃ P, deT [] (enB tb q) = P := ⟨_, rfl⟩
        obtain ⟨p1, p2, p3, p4⟩ := wire_same hk hP
        rw [hk] at CF
        obtain ⟨N, hN⟩ : ∃ N, (enB tb q).length = N := ⟨_, rfl⟩
        rw [hN] at CF hfl
        have CD := fun c d w h h2 hc => implDecodeTerm_ok none 0 0 [] c N d (enB tb q) w h rfl (by omega) (fun t ht => by simp at ht) h2 hPb.out hN (by have := hfl.out; omega) hc
        rw [hP, p1] at CD
        obtain ⟨pc, pk, pl⟩ := P
        simp only at p1 p2 p3 p4 CD
        obtain ⟨pn, hpn⟩ : ∃ l, pl.length = l := ⟨_, rfl⟩
        rw [hpn] at CD
        have hpl4 : pn ≤ 400 := by rw [← hpn]; exact (tfC_zero p2).1
        have hokp := tfC_ok p2
        have CSm := fun c d w h h2 => implSameTerms_ok c20 k20 d20 tb q c pn d pl pk w h hl20 (by unfold maxLen; omega) hok20 h2 hpn (by unfold maxLen; omega) hokp
        rw [p3] at CSm
        have C1 := fun w h => implDepthOf_ok c20 k20 d20 tb q w h hl20 (by unfold maxLen; omega) hkd20 hok20
        have C2 := fun c d w h hc => implDepthOf_ok c pn d pl pk w h hpn (by unfold maxLen; omega) hc hokp
        rw [p4] at C1
        generalize dpV pl pk = dv at *
        generalize akC tb q = ka at *
        generalize akC pl pk = kb at *
        have HN := Hid.mk hN
        have HPN := Hid.mk hpn
        generalize enB tb q = Y at *
        replace CF := Hid.mk CF
        replace CD := Hid.mk CD
        replace CSm := Hid.mk CSm
        replace C1 := Hid.mk C1
        replace C2 := Hid.mk C2
        clear hP p1 p2 p3 p4 hk hN hpn CT hok20 hokp
        have hq := field_i1W
        have Bo := B
        go_wp2_with fail
        refine (CF.out _ R20).mono ?_
        rintro e w21 ⟨c21, d21, rfl, O21, b21⟩
        have S21 := b21.size
        replace R20 := R20.kept b21
        replace B := thenB B b21
        clear b21
        have Bo := B
        have hc21 := O21.cap
        rw [HN.out] at hc21
        replace R20 := R20.kept (belowA w21 (.cells #[.int .i64 0, .slice c21 N d21] 31))
        replace O21 := O21.kept (belowA w21 (.cells #[.int .i64 0, .slice c21 N d21] 31))
        replace B := thenB B (belowA w21 (.cells #[.int .i64 0, .slice c21 N d21] 31))
        have VE := V.new w21 [.int .i64 0, .slice c21 N d21] 31
        obtain ⟨s_VE, f_VE, z_VE⟩ := VE.open
        have Bo := B
        go_wp2_with fail
        refine (CD.out c21 d21 _ (.inl rfl) O21.rd hc21).mono ?_
        rintro e w22 ⟨c22, d22, rfl, O22, b22⟩
        clear s_VE f_VE z_VE
        have S22 := b22.size
        simp only [World.size_alloc] at S22
        replace VE := VE.kept b22
        replace R20 := R20.kept b22
        replace O21 := O21.kept b22
        replace B := thenB B b22
        clear b22
        obtain ⟨s_VE, f_VE, z_VE⟩ := VE.open
        have Bo := B
        have hc22 := ownTerm_le O22
        rw [HPN.out] at hc22
        have hz21 := O21.lt
        clear O21 hz21
        replace VE := VE.kept (belowA w22 (.cells #[.int .i64 0, .int .i64 pk, .slice c22 pn d22] 28))
        replace R20 := R20.kept (belowA w22 (.cells #[.int .i64 0, .int .i64 pk, .slice c22 pn d22] 28))
        replace O22 := O22.kept (belowA w22 (.cells #[.int .i64 0, .int .i64 pk, .slice c22 pn d22] 28))
        replace B := thenB B (belowA w22 (.cells #[.int .i64 0, .int .i64 pk, .slice c22 pn d22] 28))
        have VX := V.new w22 [.int .i64 0, .int .i64 pk, .slice c22 pn d22] 28
        clear s_VE f_VE z_VE
        have K : ∀ w' : World, Below (w22.alloc (.cells #[.int .i64 0, .int .i64 pk, .slice c22 pn d22] 28)).heap.size (w22.alloc (.cells #[.int .i64 0, .int .i64 pk, .slice c22 pn d22] 28)) w' → (w'.cell? ⟨w22.heap.size, 0, none⟩ = some (.int .i64 0) ∧ w'.cell? ⟨w22.heap.size, 1, none⟩ = some (.int .i64 pk) ∧ w'.cell? ⟨w22.heap.size, 2, none⟩ = some (.slice c22 pn d22)) := fun w' h => ⟨(VX.kept h).2.1 0 (by simp), (VX.kept h).2.1 1 (by simp), (VX.kept h).2.1 2 (by simp)⟩
        have K := Hid.mk K
        obtain ⟨s_VE, f_VE, z_VE⟩ := VE.open
        obtain ⟨s_VX, f_VX, z_VX⟩ := VX.open
        go_wp2_with fail
        clear s_VE f_VE z_VE s_VX f_VX z_VX
        refine wp_region_held_drew (S := (fun w' => w'.cell? ⟨w22.heap.size, 0, none⟩ = some (.int .i64 0) ∧ w'.cell? ⟨w22.heap.size, 1, none⟩ = some (.int .i64 pk) ∧ w'.cell? ⟨w22.heap.size, 2, none⟩ = some (.slice c22 pn d22))) (by kernel_rfl) (K.out _ (Below.refl _ _).drew) (fun hHeld => ?_)
        refine wpAnyH_take (i := 0) (oi := _) (v := ?vsyu1) rfl (by kernel_rfl) (by kernel_rfl) (by kernel_rfl) (fun _ _ _ h => h) (Or.inl ⟨by kernel_rfl, ?hysyu1⟩) hHeld ?restsyu1
        case hysyu1 => (intro w hSw; (try dsimp only at hSw); go_simp; first | done | with_reducible rfl)
        try simp only [Act.put, List.getElem_toArray, List.getElem_cons_zero, List.setIfInBounds_toArray, List.set_cons_zero, List.set_cons_succ]
        refine wpAnyH_take (i := 1) (oi := _) (v := ?vsyu2) rfl (by kernel_rfl) (by kernel_rfl) (by kernel_rfl) (fun _ _ _ h => h) (Or.inl ⟨by kernel_rfl, ?hysyu2⟩) hHeld ?restsyu2
        case hysyu2 => (intro w hSw; (try dsimp only at hSw); go_simp; first | done | with_reducible rfl)
        try simp only [Act.put, List.getElem_toArray, List.getElem_cons_zero, List.getElem_cons_succ, List.setIfInBounds_toArray, List.set_cons_zero, List.set_cons_succ]
        refine wpAnyH_take (i := 2) (oi := _) (v := ?vsyu3) rfl (by kernel_rfl) (by kernel_rfl) (by kernel_rfl) (fun _ _ _ h => h) (Or.inl ⟨by kernel_rfl, ?hysyu3⟩) hHeld ?restsyu3
        case hysyu3 => (intro w hSw; (try dsimp only at hSw); go_simp; first | done | with_reducible rfl)
        try simp only [Act.put, List.getElem_toArray, List.getElem_cons_zero, List.getElem_cons_succ, List.setIfInBounds_toArray, List.set_cons_zero, List.set_cons_succ]
        refine wpAnyH_take (i := 3) (oi := _) (v := ?vsyu4) rfl (by kernel_rfl) (by kernel_rfl) (by kernel_rfl) (fun _ _ _ h => h) (Or.inl ⟨by kernel_rfl, ?hysyu4⟩) hHeld ?restsyu4
        case hysyu4 => (intro w hSw; (try dsimp only at hSw); go_simp; first | done | with_reducible rfl)
        try simp only [Act.put, List.getElem_toArray, List.getElem_cons_zero, List.getElem_cons_succ, List.setIfInBounds_toArray, List.set_cons_zero, List.set_cons_succ]
        refine wpAnyH_take (i := 4) (oi := _) (v := ?vsyu5) rfl (by kernel_rfl) (by kernel_rfl) (by kernel_rfl) (fun _ _ _ h => h) (Or.inl ⟨by kernel_rfl, ?hysyu5⟩) hHeld ?restsyu5
        case hysyu5 => (intro w hSw; (try dsimp only at hSw); go_simp; first | done | with_reducible rfl)
        try simp only [Act.put, List.getElem_toArray, List.getElem_cons_zero, List.getElem_cons_succ, List.setIfInBounds_toArray, List.set_cons_zero, List.set_cons_succ]
        refine wpAnyH_take (i := 5) (oi := _) (v := ?vsyu6) rfl (by kernel_rfl) (by kernel_rfl) (by kernel_rfl) (fun _ _ _ h => h) (Or.inl ⟨by kernel_rfl, ?hysyu6⟩) hHeld ?restsyu6
        case hysyu6 => (intro w hSw; (try dsimp only at hSw); go_simp; first | done | with_reducible rfl)
        try simp only [Act.put, List.getElem_toArray, List.getElem_cons_zero, List.getElem_cons_succ, List.setIfInBounds_toArray, List.set_cons_zero, List.set_cons_succ]
        refine wpAnyH_take (i := 6) (oi := _) (v := ?vsyu7) rfl (by kernel_rfl) (by kernel_rfl) (by kernel_rfl) (fun _ _ _ h => h) (Or.inl ⟨by kernel_rfl, ?hysyu7⟩) hHeld ?restsyu7
        case hysyu7 => (intro w hSw; (try dsimp only at hSw); go_simp; first | done | with_reducible rfl)
        try simp only [Act.put, List.getElem_toArray, List.getElem_cons_zero, List.getElem_cons_succ, List.setIfInBounds_toArray, List.set_cons_zero, List.set_cons_succ]
        refine wpAnyH_take (i := 7) (oi := _) (v := ?vsyu8) rfl (by kernel_rfl) (by kernel_rfl) (by kernel_rfl) (fun _ _ _ h => h) (Or.inl ⟨by kernel_rfl, ?hysyu8⟩) hHeld ?restsyu8
        case hysyu8 => (intro w hSw; (try dsimp only at hSw); go_simp; first | done | with_reducible rfl)
        try simp only [Act.put, List.getElem_toArray, List.getElem_cons_zero, List.getElem_cons_succ, List.setIfInBounds_toArray, List.set_cons_zero, List.set_cons_succ]
        refine wpAnyH_take (i := 8) (oi := _) (v := ?vsyu9) rfl (by kernel_rfl) (by kernel_rfl) (by kernel_rfl) (fun _ _ _ h => h) (Or.inl ⟨by kernel_rfl, ?hysyu9⟩) hHeld ?restsyu9
        case hysyu9 => (intro w hSw; (try dsimp only at hSw); go_simp; first | done | with_reducible rfl)
        try simp only [Act.put, List.getElem_toArray, List.getElem_cons_zero, List.getElem_cons_succ, List.setIfInBounds_toArray, List.set_cons_zero, List.set_cons_succ]
        refine wpAnyH_take (i := 9) (oi := _) (v := ?vsyu10) rfl (by kernel_rfl) (by kernel_rfl) (by kernel_rfl) (fun _ _ _ h => h) (Or.inl ⟨by kernel_rfl, ?hysyu10⟩) hHeld ?restsyu10
        case hysyu10 => (intro w hSw; (try dsimp only at hSw); go_simp; first | done | with_reducible rfl)
        try simp only [Act.put, List.getElem_toArray, List.getElem_cons_zero, List.getElem_cons_succ, List.setIfInBounds_toArray, List.set_cons_zero, List.set_cons_succ]
        refine wpAnyH_ready (rs := [10]) (by kernel_rfl) (by simp) ?_
        refine AllReadyH.cons (o := _) rfl (fun K0 hK0 => ?_) AllReadyH.nil
        go_simp
        go_at_call 11
        refine (CSm.out c22 d22 _ (R20.kept (Below.refl _ _).drew) (O22.rd.kept (Below.refl _ _).drew)).mono ?_
        rintro e wsyv11 ⟨rfl, bsyv11⟩
        refine hK0.out _ _ (K.out _ (thenB (Below.refl _ _).drew bsyv11)) (fun hHeld => ?_)
        clear hK0 K0
        try simp only [Act.put, List.getElem_toArray, List.getElem_cons_zero, List.getElem_cons_succ, List.setIfInBounds_toArray, List.set_cons_zero, List.set_cons_succ]
        refine wpAnyH_take (i := 11) (oi := _) (v := ?vsyu12) rfl (by kernel_rfl) (by kernel_rfl) (by kernel_rfl) (fun _ _ _ h => h) (Or.inl ⟨by kernel_rfl, ?hysyu12⟩) hHeld ?restsyu12
        case hysyu12 => (intro w hSw; (try dsimp only at hSw); go_simp; first | done | with_reducible rfl)
        try simp only [Act.put, List.getElem_toArray, List.getElem_cons_zero, List.getElem_cons_succ, List.setIfInBounds_toArray, List.set_cons_zero, List.set_cons_succ]
        refine wpAnyH_take (i := 12) (oi := _) (v := ?vsyu13) rfl (by kernel_rfl) (by kernel_rfl) (by kernel_rfl) (fun _ _ _ h => h) (Or.inl ⟨by kernel_rfl, ?hysyu13⟩) hHeld ?restsyu13
        case hysyu13 => (intro w hSw; (try dsimp only at hSw); go_simp; first | done | with_reducible rfl)
        try simp only [Act.put, List.getElem_toArray, List.getElem_cons_zero, List.getElem_cons_succ, List.setIfInBounds_toArray, List.set_cons_zero, List.set_cons_succ]
        refine wpAnyH_take (i := 13) (oi := _) (v := ?vsyu14) rfl (by kernel_rfl) (by kernel_rfl) (by kernel_rfl) (fun _ _ _ h => h) (Or.inl ⟨by kernel_rfl, ?hysyu14⟩) hHeld ?restsyu14
        case hysyu14 => (intro w hSw; (try dsimp only at hSw); go_simp; first | done | with_reducible rfl)
        try simp only [Act.put, List.getElem_toArray, List.getElem_cons_zero, List.getElem_cons_succ, List.setIfInBounds_toArray, List.set_cons_zero, List.set_cons_succ]
        refine wpAnyH_take (i := 14) (oi := _) (v := ?vsyu15) rfl (by kernel_rfl) (by kernel_rfl) (by kernel_rfl) (fun _ _ _ h => h) (Or.inl ⟨by kernel_rfl, ?hysyu15⟩) hHeld ?restsyu15
        case hysyu15 => (intro w hSw; (try dsimp only at hSw); go_simp; first | done | with_reducible rfl)
        try simp only [Act.put, List.getElem_toArray, List.getElem_cons_zero, List.getElem_cons_succ, List.setIfInBounds_toArray, List.set_cons_zero, List.set_cons_succ]
        refine wpAnyH_take (i := 17) (oi := _) (v := ?vsyu16) rfl (by kernel_rfl) (by kernel_rfl) (by kernel_rfl) (fun _ _ _ h => h) (Or.inl ⟨by kernel_rfl, ?hysyu16⟩) hHeld ?restsyu16
        case hysyu16 => (intro w hSw; (try dsimp only at hSw); go_simp; first | done | with_reducible rfl)
        try simp only [Act.put, List.getElem_toArray, List.getElem_cons_zero, List.getElem_cons_succ, List.setIfInBounds_toArray, List.set_cons_zero, List.set_cons_succ]
        refine wpAnyH_take (i := 18) (oi := _) (v := ?vsyu17) rfl (by kernel_rfl) (by kernel_rfl) (by kernel_rfl) (fun _ _ _ h => h) (Or.inl ⟨by kernel_rfl, ?hysyu17⟩) hHeld ?restsyu17
        case hysyu17 => (intro w hSw; (try dsimp only at hSw); go_simp; first | done | with_reducible rfl)
        try simp only [Act.put, List.getElem_toArray, List.getElem_cons_zero, List.getElem_cons_succ, List.setIfInBounds_toArray, List.set_cons_zero, List.set_cons_succ]
        refine wpAnyH_take (i := 19) (oi := _) (v := ?vsyu18) rfl (by kernel_rfl) (by kernel_rfl) (by kernel_rfl) (fun _ _ _ h => h) (Or.inl ⟨by kernel_rfl, ?hysyu18⟩) hHeld ?restsyu18
        case hysyu18 => (intro w hSw; (try dsimp only at hSw); go_simp; first | done | with_reducible rfl)
        try simp only [Act.put, List.getElem_toArray, List.getElem_cons_zero, List.getElem_cons_succ, List.setIfInBounds_toArray, List.set_cons_zero, List.set_cons_succ]
        refine wpAnyH_take (i := 20) (oi := _) (v := ?vsyu19) rfl (by kernel_rfl) (by kernel_rfl) (by kernel_rfl) (fun _ _ _ h => h) (Or.inl ⟨by kernel_rfl, ?hysyu19⟩) hHeld ?restsyu19
        case hysyu19 => (intro w hSw; (try dsimp only at hSw); go_simp; first | done | with_reducible rfl)
        try simp only [Act.put, List.getElem_toArray, List.getElem_cons_zero, List.getElem_cons_succ, List.setIfInBounds_toArray, List.set_cons_zero, List.set_cons_succ]
        refine wpAnyH_ready (rs := [15]) (by kernel_rfl) (by simp) ?_
        refine AllReadyH.cons (o := _) rfl (fun K0 hK0 => ?_) AllReadyH.nil
        go_simp
        go_at_call 12
        refine (C1.out _ (R20.kept (thenB (Below.refl _ _).drew bsyv11))).mono ?_
        rintro e wsyv20 ⟨rfl, bsyv20⟩
        refine hK0.out _ _ (K.out _ (thenB (thenB (Below.refl _ _).drew bsyv11) bsyv20)) (fun hHeld => ?_)
        clear hK0 K0
        try simp only [Act.put, List.getElem_toArray, List.getElem_cons_zero, List.getElem_cons_succ, List.setIfInBounds_toArray, List.set_cons_zero, List.set_cons_succ]
        refine wpAnyH_take (i := 16) (oi := _) (v := ?vsyu21) rfl (by kernel_rfl) (by kernel_rfl) (by kernel_rfl) (fun _ _ _ h => h) (Or.inl ⟨by kernel_rfl, ?hysyu21⟩) hHeld ?restsyu21
        case hysyu21 => (intro w hSw; (try dsimp only at hSw); go_simp; first | done | with_reducible rfl)
        try simp only [Act.put, List.getElem_toArray, List.getElem_cons_zero, List.getElem_cons_succ, List.setIfInBounds_toArray, List.set_cons_zero, List.set_cons_succ]
        refine wpAnyH_ready (rs := [21]) (by kernel_rfl) (by simp) ?_
        refine AllReadyH.cons (o := _) rfl (fun K0 hK0 => ?_) AllReadyH.nil
        go_simp
        go_at_call 12
        refine (C2.out c22 d22 _ (O22.rd.kept (thenB (thenB (Below.refl _ _).drew bsyv11) bsyv20)) hc22).mono ?_
        rintro e wsyv22 ⟨rfl, bsyv22⟩
        refine hK0.out _ _ (K.out _ (thenB (thenB (thenB (Below.refl _ _).drew bsyv11) bsyv20) bsyv22)) (fun hHeld => ?_)
        clear hK0 K0
        try simp only [Act.put, List.getElem_toArray, List.getElem_cons_zero, List.getElem_cons_succ, List.setIfInBounds_toArray, List.set_cons_zero, List.set_cons_succ]
        refine wpAnyH_take (i := 22) (oi := _) (v := ?vsyu23) rfl (by kernel_rfl) (by kernel_rfl) (by kernel_rfl) (fun _ _ _ h => h) (Or.inl ⟨by kernel_rfl, ?hysyu23⟩) hHeld ?restsyu23
        case hysyu23 => (intro w hSw; (try dsimp only at hSw); go_simp; first | done | with_reducible rfl)
        try simp only [Act.put, List.getElem_toArray, List.getElem_cons_zero, List.getElem_cons_succ, List.setIfInBounds_toArray, List.set_cons_zero, List.set_cons_succ]
        refine wpAnyH_take (i := 23) (oi := _) (v := ?vsyu24) rfl (by kernel_rfl) (by kernel_rfl) (by kernel_rfl) (fun _ _ _ h => h) (Or.inl ⟨by kernel_rfl, ?hysyu24⟩) hHeld ?restsyu24
        case hysyu24 => (intro w hSw; (try dsimp only at hSw); go_simp; first | done | with_reducible rfl)
        try simp only [Act.put, List.getElem_toArray, List.getElem_cons_zero, List.getElem_cons_succ, List.setIfInBounds_toArray, List.set_cons_zero, List.set_cons_succ]
        refine wpAnyH_take (i := 24) (oi := _) (v := ?vsyu25) rfl (by kernel_rfl) (by kernel_rfl) (by kernel_rfl) (fun _ _ _ h => h) (Or.inl ⟨by kernel_rfl, ?hysyu25⟩) hHeld ?restsyu25
        case hysyu25 => (intro w hSw; (try dsimp only at hSw); go_simp; first | done | with_reducible rfl)
        try simp only [Act.put, List.getElem_toArray, List.getElem_cons_zero, List.getElem_cons_succ, List.setIfInBounds_toArray, List.set_cons_zero, List.set_cons_succ]
        refine wpAnyH_take (i := 25) (oi := _) (v := ?vsyu26) rfl (by kernel_rfl) (by kernel_rfl) (by kernel_rfl) (fun _ _ _ h => h) (Or.inl ⟨by kernel_rfl, ?hysyu26⟩) hHeld ?restsyu26
        case hysyu26 => (intro w hSw; (try dsimp only at hSw); go_simp; first | done | with_reducible rfl)
        try simp only [Act.put, List.getElem_toArray, List.getElem_cons_zero, List.getElem_cons_succ, List.setIfInBounds_toArray, List.set_cons_zero, List.set_cons_succ]
        refine wpAnyH_done (by kernel_rfl) ?_ _
        have bacc : Below (w22.alloc (.cells #[.int .i64 0, .int .i64 pk, .slice c22 pn d22] 28)).heap.size (w22.alloc (.cells #[.int .i64 0, .int .i64 pk, .slice c22 pn d22] 28)) _ := (thenB (thenB (thenB (Below.refl _ _).drew bsyv11) bsyv20) bsyv22)
        replace VE := VE.kept bacc
        replace VX := VX.kept bacc
        replace R20 := R20.kept bacc
        replace O22 := O22.kept bacc
        replace B := thenB B bacc
        clear bacc K
        have Bf := B
        clear O22 VX VE R20
        go_wp2
        go_ret
        exact ⟨rfl, Bf⟩
      · skip
        have hk1 : (enC tb q != 0) = true := by simp [hk]
        generalize enB tb q = Y at *
        obtain ⟨N, hN⟩ : ∃ N, Y.length = N := ⟨_, rfl⟩
        rw [hN] at CF CT
        generalize enC tb q = kk at *
        clear hN hk hl20 hok20
        replace CF := Hid.mk CF
        replace CT := Hid.mk CT
        have hfd := field_b0W (.int .i64 kk)
        have Bo := B
        go_wp2_with fail
        refine (CF.out _ R20).mono ?_
        rintro e w21 ⟨c21, d21, rfl, O21, b21⟩
        have S21 := b21.size
        replace R20 := R20.kept b21
        replace B := thenB B b21
        clear b21
        have Bo := B
        clear O21
        replace R20 := R20.kept (belowA w21 (.cells #[.int .i64 kk, .slice c21 N d21] 31))
        replace B := thenB B (belowA w21 (.cells #[.int .i64 kk, .slice c21 N d21] 31))
        have VE := V.new w21 [.int .i64 kk, .slice c21 N d21] 31
        obtain ⟨s_VE, f_VE, z_VE⟩ := VE.open
        have Bo := B
        clear s_VE f_VE z_VE
        have K : ∀ w' : World, Below ((w21.alloc (.cells #[.int .i64 kk, .slice c21 N d21] 31))).heap.size (w21.alloc (.cells #[.int .i64 kk, .slice c21 N d21] 31)) w' → w'.cell? ⟨w21.heap.size, 0, none⟩ = some (.int .i64 kk) := fun w' h => (VE.kept h).2.1 0 (by simp)
        have K := Hid.mk K
        obtain ⟨s_VE, f_VE, z_VE⟩ := VE.open
        go_wp2_with fail
        go_region_held3 (fun w' => w'.cell? ⟨w21.heap.size, 0, none⟩ = some (.int .i64 kk)) (first | exact K.out _ (thenB (Below.refl _ _).drew b3) | exact K.out _ (Below.refl _ _).drew) ((go_at_call 10; refine (CT.out _ (R20.kept (Below.refl _ _).drew)).mono ?_; rintro e w3 ⟨c3, d3, rfl, O3, b3⟩))
        have B3 := thenB B (thenB (Below.refl _ _).drew b3)
        go_wp2
        go_ret
        exact ⟨rfl, B3⟩
    · skip
      have hq := field_t0W
      have hk1 : (pc != 0) = true := by simp [hc0]
      have hk2 : (pc == 0) = false := by simp [hc0]
      replace CI := Hid.mk CI
      replace CS := Hid.mk CS
      clear hc0 hP CV
      have Bo := B
      go_wp2_with fail
      refine (CI.out _ RT R).mono ?_
      rintro e w2 ⟨c3, d3, rfl, O3, b2⟩
      have S2 := b2.size
      replace RT := RT.kept b2
      replace R := R.kept b2
      replace RA := RA.kept b2
      replace B := thenB B b2
      clear b2
      have Bo := B
      clear O3
      replace RT := RT.kept (belowA w2 (.cells #[.int .i64 pc, .int .i64 pk, .slice c3 pn d3] 28))
      replace R := R.kept (belowA w2 (.cells #[.int .i64 pc, .int .i64 pk, .slice c3 pn d3] 28))
      replace RA := RA.kept (belowA w2 (.cells #[.int .i64 pc, .int .i64 pk, .slice c3 pn d3] 28))
      replace B := thenB B (belowA w2 (.cells #[.int .i64 pc, .int .i64 pk, .slice c3 pn d3] 28))
      have VD := V.new w2 [.int .i64 pc, .int .i64 pk, .slice c3 pn d3] 28
      have K : ∀ w' : World, Below (w2.alloc (.cells #[.int .i64 pc, .int .i64 pk, .slice c3 pn d3] 28)).heap.size (w2.alloc (.cells #[.int .i64 pc, .int .i64 pk, .slice c3 pn d3] 28)) w' → (w'.cell? ⟨w2.heap.size, 0, none⟩ = some (.int .i64 pc)) := fun w' h => (VD.kept h).2.1 0 (by simp)
      have K := Hid.mk K
      obtain ⟨s_VD, f_VD, z_VD⟩ := VD.open
      go_wp2_with fail
      clear s_VD f_VD z_VD
      refine wp_region_held_drew (S := (fun w' => w'.cell? ⟨w2.heap.size, 0, none⟩ = some (.int .i64 pc))) (by kernel_rfl) (K.out _ (Below.refl _ _).drew) (fun hHeld => ?_)
      refine wpAnyH_take (i := 0) (oi := _) (v := ?vrnu1) rfl (by kernel_rfl) (by kernel_rfl) (by kernel_rfl) (fun _ _ _ h => h) (Or.inl ⟨by kernel_rfl, ?hyrnu1⟩) hHeld ?restrnu1
      case hyrnu1 => (intro w hSw; (try dsimp only at hSw); go_simp; first | done | with_reducible rfl)
      try simp only [Act.put, List.getElem_toArray, List.getElem_cons_zero, List.setIfInBounds_toArray, List.set_cons_zero, List.set_cons_succ]
      refine wpAnyH_take (i := 1) (oi := _) (v := ?vrnu2) rfl (by kernel_rfl) (by kernel_rfl) (by kernel_rfl) (fun _ _ _ h => h) (Or.inl ⟨by kernel_rfl, ?hyrnu2⟩) hHeld ?restrnu2
      case hyrnu2 => (intro w hSw; (try dsimp only at hSw); go_simp; first | done | with_reducible rfl)
      try simp only [Act.put, List.getElem_toArray, List.getElem_cons_zero, List.getElem_cons_succ, List.setIfInBounds_toArray, List.set_cons_zero, List.set_cons_succ]
      refine wpAnyH_take (i := 2) (oi := _) (v := ?vrnu3) rfl (by kernel_rfl) (by kernel_rfl) (by kernel_rfl) (fun _ _ _ h => h) (Or.inl ⟨by kernel_rfl, ?hyrnu3⟩) hHeld ?restrnu3
      case hyrnu3 => (intro w hSw; (try dsimp only at hSw); go_simp; first | done | with_reducible rfl)
      try simp only [Act.put, List.getElem_toArray, List.getElem_cons_zero, List.getElem_cons_succ, List.setIfInBounds_toArray, List.set_cons_zero, List.set_cons_succ]
      refine wpAnyH_take (i := 3) (oi := _) (v := ?vrnu4) rfl (by kernel_rfl) (by kernel_rfl) (by kernel_rfl) (fun _ _ _ h => h) (Or.inl ⟨by kernel_rfl, ?hyrnu4⟩) hHeld ?restrnu4
      case hyrnu4 => (intro w hSw; (try dsimp only at hSw); go_simp; first | done | with_reducible rfl)
      try simp only [Act.put, List.getElem_toArray, List.getElem_cons_zero, List.getElem_cons_succ, List.setIfInBounds_toArray, List.set_cons_zero, List.set_cons_succ]
      refine wpAnyH_take (i := 4) (oi := _) (v := ?vrnu5) rfl (by kernel_rfl) (by kernel_rfl) (by kernel_rfl) (fun _ _ _ h => h) (Or.inl ⟨by kernel_rfl, ?hyrnu5⟩) hHeld ?restrnu5
      case hyrnu5 => (intro w hSw; (try dsimp only at hSw); go_simp; first | done | with_reducible rfl)
      try simp only [Act.put, List.getElem_toArray, List.getElem_cons_zero, List.getElem_cons_succ, List.setIfInBounds_toArray, List.set_cons_zero, List.set_cons_succ]
      refine wpAnyH_take (i := 5) (oi := _) (v := ?vrnu6) rfl (by kernel_rfl) (by kernel_rfl) (by kernel_rfl) (fun _ _ _ h => h) (Or.inl ⟨by kernel_rfl, ?hyrnu6⟩) hHeld ?restrnu6
      case hyrnu6 => (intro w hSw; (try dsimp only at hSw); go_simp; first | done | with_reducible rfl)
      try simp only [Act.put, List.getElem_toArray, List.getElem_cons_zero, List.getElem_cons_succ, List.setIfInBounds_toArray, List.set_cons_zero, List.set_cons_succ]
      refine wpAnyH_take (i := 8) (oi := _) (v := ?vrnu7) rfl (by kernel_rfl) (by kernel_rfl) (by kernel_rfl) (fun _ _ _ h => h) (Or.inl ⟨by kernel_rfl, ?hyrnu7⟩) hHeld ?restrnu7
      case hyrnu7 => (intro w hSw; (try dsimp only at hSw); go_simp; first | done | with_reducible rfl)
      try simp only [Act.put, List.getElem_toArray, List.getElem_cons_zero, List.getElem_cons_succ, List.setIfInBounds_toArray, List.set_cons_zero, List.set_cons_succ]
      refine wpAnyH_take (i := 9) (oi := _) (v := ?vrnu8) rfl (by kernel_rfl) (by kernel_rfl) (by kernel_rfl) (fun _ _ _ h => h) (Or.inl ⟨by kernel_rfl, ?hyrnu8⟩) hHeld ?restrnu8
      case hyrnu8 => (intro w hSw; (try dsimp only at hSw); go_simp; first | done | with_reducible rfl)
      try simp only [Act.put, List.getElem_toArray, List.getElem_cons_zero, List.getElem_cons_succ, List.setIfInBounds_toArray, List.set_cons_zero, List.set_cons_succ]
      refine wpAnyH_ready (rs := [6]) (by kernel_rfl) (by simp) ?_
      refine AllReadyH.cons (o := _) rfl (fun K0 hK0 => ?_) AllReadyH.nil
      go_simp
      go_at_call 7
      refine (CS.out _ (RT.kept (Below.refl _ _).drew) (R.kept (Below.refl _ _).drew)).mono ?_
      rintro e wrnv9 ⟨c4, d4, rfl, O4, brnv9⟩
      refine hK0.out _ _ (K.out _ (thenB (Below.refl _ _).drew brnv9)) (fun hHeld => ?_)
      clear hK0 K0
      try simp only [Act.put, List.getElem_toArray, List.getElem_cons_zero, List.getElem_cons_succ, List.setIfInBounds_toArray, List.set_cons_zero, List.set_cons_succ]
      refine wpAnyH_take (i := 7) (oi := _) (v := ?vrnu10) rfl (by kernel_rfl) (by kernel_rfl) (by kernel_rfl) (fun _ _ _ h => h) (Or.inl ⟨by kernel_rfl, ?hyrnu10⟩) hHeld ?restrnu10
      case hyrnu10 => (intro w hSw; (try dsimp only at hSw); go_simp; first | done | with_reducible rfl)
      try simp only [Act.put, List.getElem_toArray, List.getElem_cons_zero, List.getElem_cons_succ, List.setIfInBounds_toArray, List.set_cons_zero, List.set_cons_succ]
      refine wpAnyH_take (i := 10) (oi := _) (v := ?vrnu11) rfl (by kernel_rfl) (by kernel_rfl) (by kernel_rfl) (fun _ _ _ h => h) (Or.inl ⟨by kernel_rfl, ?hyrnu11⟩) hHeld ?restrnu11
      case hyrnu11 => (intro w hSw; (try dsimp only at hSw); go_simp; first | done | with_reducible rfl)
      try simp only [Act.put, List.getElem_toArray, List.getElem_cons_zero, List.getElem_cons_succ, List.setIfInBounds_toArray, List.set_cons_zero, List.set_cons_succ]
      refine wpAnyH_take (i := 11) (oi := _) (v := ?vrnu12) rfl (by kernel_rfl) (by kernel_rfl) (by kernel_rfl) (fun _ _ _ h => h) (Or.inl ⟨by kernel_rfl, ?hyrnu12⟩) hHeld ?restrnu12
      case hyrnu12 => (intro w hSw; (try dsimp only at hSw); go_simp; first | done | with_reducible rfl)
      try simp only [Act.put, List.getElem_toArray, List.getElem_cons_zero, List.getElem_cons_succ, List.setIfInBounds_toArray, List.set_cons_zero, List.set_cons_succ]
      refine wpAnyH_done (by kernel_rfl) ?_ _
      have bacc : Below (w2.alloc (.cells #[.int .i64 pc, .int .i64 pk, .slice c3 pn d3] 28)).heap.size (w2.alloc (.cells #[.int .i64 pc, .int .i64 pk, .slice c3 pn d3] 28)) _ := (thenB (Below.refl _ _).drew brnv9)
      replace VD := VD.kept bacc
      replace RT := RT.kept bacc
      replace R := R.kept bacc
      replace RA := RA.kept bacc
      replace B := thenB B bacc
      clear bacc K
      clear O4
      obtain ⟨s_VD, f_VD, z_VD⟩ := VD.open
      clear s_VD f_VD z_VD
      have K : ∀ w' : World, Below wrnv9.heap.size wrnv9 w' → (w'.cell? ⟨w2.heap.size, 0, none⟩ = some (.int .i64 pc)) := fun w' h => (VD.kept h).2.1 0 (by simp)
      have K := Hid.mk K
      obtain ⟨s_VD, f_VD, z_VD⟩ := VD.open
      go_wp2_with fail
      clear s_VD f_VD z_VD
      refine wp_region_held_drew (S := (fun w' => w'.cell? ⟨w2.heap.size, 0, none⟩ = some (.int .i64 pc))) (by kernel_rfl) (K.out _ (Below.refl _ _).drew) (fun hHeld => ?_)
      refine wpAnyH_take (i := 0) (oi := _) (v := ?vrmu1) rfl (by kernel_rfl) (by kernel_rfl) (by kernel_rfl) (fun _ _ _ h => h) (Or.inl ⟨by kernel_rfl, ?hyrmu1⟩) hHeld ?restrmu1
      case hyrmu1 => (intro w hSw; (try dsimp only at hSw); go_simp; first | done | with_reducible rfl)
      try simp only [Act.put, List.getElem_toArray, List.getElem_cons_zero, List.setIfInBounds_toArray, List.set_cons_zero, List.set_cons_succ]
      refine wpAnyH_take (i := 1) (oi := _) (v := ?vrmu2) rfl (by kernel_rfl) (by kernel_rfl) (by kernel_rfl) (fun _ _ _ h => h) (Or.inl ⟨by kernel_rfl, ?hyrmu2⟩) hHeld ?restrmu2
      case hyrmu2 => (intro w hSw; (try dsimp only at hSw); go_simp; first | done | with_reducible rfl)
      try simp only [Act.put, List.getElem_toArray, List.getElem_cons_zero, List.getElem_cons_succ, List.setIfInBounds_toArray, List.set_cons_zero, List.set_cons_succ]
      refine wpAnyH_take (i := 2) (oi := _) (v := ?vrmu3) rfl (by kernel_rfl) (by kernel_rfl) (by kernel_rfl) (fun _ _ _ h => h) (Or.inl ⟨by kernel_rfl, ?hyrmu3⟩) hHeld ?restrmu3
      case hyrmu3 => (intro w hSw; (try dsimp only at hSw); go_simp; first | done | with_reducible rfl)
      try simp only [Act.put, List.getElem_toArray, List.getElem_cons_zero, List.getElem_cons_succ, List.setIfInBounds_toArray, List.set_cons_zero, List.set_cons_succ]
      refine wpAnyH_take (i := 3) (oi := _) (v := ?vrmu4) rfl (by kernel_rfl) (by kernel_rfl) (by kernel_rfl) (fun _ _ _ h => h) (Or.inl ⟨by kernel_rfl, ?hyrmu4⟩) hHeld ?restrmu4
      case hyrmu4 => (intro w hSw; (try dsimp only at hSw); go_simp; first | done | with_reducible rfl)
      try simp only [Act.put, List.getElem_toArray, List.getElem_cons_zero, List.getElem_cons_succ, List.setIfInBounds_toArray, List.set_cons_zero, List.set_cons_succ]
      refine wpAnyH_take (i := 4) (oi := _) (v := undef) rfl (by kernel_rfl) (by kernel_rfl) (by kernel_rfl) (fun _ _ _ h => h) (Or.inr ⟨by rfl, rfl⟩) hHeld ?_
      try simp only [Act.put, List.getElem_toArray, List.getElem_cons_zero, List.getElem_cons_succ, List.setIfInBounds_toArray, List.set_cons_zero, List.set_cons_succ]
      refine wpAnyH_take (i := 5) (oi := _) (v := undef) rfl (by kernel_rfl) (by kernel_rfl) (by kernel_rfl) (fun _ _ _ h => h) (Or.inr ⟨by rfl, rfl⟩) hHeld ?_
      try simp only [Act.put, List.getElem_toArray, List.getElem_cons_zero, List.getElem_cons_succ, List.setIfInBounds_toArray, List.set_cons_zero, List.set_cons_succ]
      refine wpAnyH_take (i := 6) (oi := _) (v := undef) rfl (by kernel_rfl) (by kernel_rfl) (by kernel_rfl) (fun _ _ _ h => h) (Or.inr ⟨by rfl, rfl⟩) hHeld ?_
      try simp only [Act.put, List.getElem_toArray, List.getElem_cons_zero, List.getElem_cons_succ, List.setIfInBounds_toArray, List.set_cons_zero, List.set_cons_succ]
      refine wpAnyH_take (i := 7) (oi := _) (v := undef) rfl (by kernel_rfl) (by kernel_rfl) (by kernel_rfl) (fun _ _ _ h => h) (Or.inr ⟨by rfl, rfl⟩) hHeld ?_
      try simp only [Act.put, List.getElem_toArray, List.getElem_cons_zero, List.getElem_cons_succ, List.setIfInBounds_toArray, List.set_cons_zero, List.set_cons_succ]
      refine wpAnyH_take (i := 8) (oi := _) (v := undef) rfl (by kernel_rfl) (by kernel_rfl) (by kernel_rfl) (fun _ _ _ h => h) (Or.inr ⟨by rfl, rfl⟩) hHeld ?_
      try simp only [Act.put, List.getElem_toArray, List.getElem_cons_zero, List.getElem_cons_succ, List.setIfInBounds_toArray, List.set_cons_zero, List.set_cons_succ]
      refine wpAnyH_take (i := 9) (oi := _) (v := undef) rfl (by kernel_rfl) (by kernel_rfl) (by kernel_rfl) (fun _ _ _ h => h) (Or.inr ⟨by rfl, rfl⟩) hHeld ?_
      try simp only [Act.put, List.getElem_toArray, List.getElem_cons_zero, List.getElem_cons_succ, List.setIfInBounds_toArray, List.set_cons_zero, List.set_cons_succ]
      refine wpAnyH_take (i := 10) (oi := _) (v := undef) rfl (by kernel_rfl) (by kernel_rfl) (by kernel_rfl) (fun _ _ _ h => h) (Or.inr ⟨by rfl, rfl⟩) hHeld ?_
      try simp only [Act.put, List.getElem_toArray, List.getElem_cons_zero, List.getElem_cons_succ, List.setIfInBounds_toArray, List.set_cons_zero, List.set_cons_succ]
      refine wpAnyH_take (i := 11) (oi := _) (v := undef) rfl (by kernel_rfl) (by kernel_rfl) (by kernel_rfl) (fun _ _ _ h => h) (Or.inr ⟨by rfl, rfl⟩) hHeld ?_
      try simp only [Act.put, List.getElem_toArray, List.getElem_cons_zero, List.getElem_cons_succ, List.setIfInBounds_toArray, List.set_cons_zero, List.set_cons_succ]
      refine wpAnyH_take (i := 12) (oi := _) (v := undef) rfl (by kernel_rfl) (by kernel_rfl) (by kernel_rfl) (fun _ _ _ h => h) (Or.inr ⟨by rfl, rfl⟩) hHeld ?_
      try simp only [Act.put, List.getElem_toArray, List.getElem_cons_zero, List.getElem_cons_succ, List.setIfInBounds_toArray, List.set_cons_zero, List.set_cons_succ]
      refine wpAnyH_take (i := 13) (oi := _) (v := undef) rfl (by kernel_rfl) (by kernel_rfl) (by kernel_rfl) (fun _ _ _ h => h) (Or.inr ⟨by rfl, rfl⟩) hHeld ?_
      try simp only [Act.put, List.getElem_toArray, List.getElem_cons_zero, List.getElem_cons_succ, List.setIfInBounds_toArray, List.set_cons_zero, List.set_cons_succ]
      refine wpAnyH_take (i := 14) (oi := _) (v := ?vrmu5) rfl (by kernel_rfl) (by kernel_rfl) (by kernel_rfl) (fun _ _ _ h => h) (Or.inl ⟨by kernel_rfl, ?hyrmu5⟩) hHeld ?restrmu5
      case hyrmu5 => (intro w hSw; (try dsimp only at hSw); go_simp; first | done | with_reducible rfl)
      try simp only [Act.put, List.getElem_toArray, List.getElem_cons_zero, List.getElem_cons_succ, List.setIfInBounds_toArray, List.set_cons_zero, List.set_cons_succ]
      refine wpAnyH_done (by kernel_rfl) ?_ _
      have bacc : Below wrnv9.heap.size wrnv9 _ := (Below.refl _ _).drew
      replace VD := VD.kept bacc
      replace RT := RT.kept bacc
      replace R := R.kept bacc
      replace RA := RA.kept bacc
      replace B := thenB B bacc
      clear bacc K
      generalize wrnv9.drew = wd3 at *
      clear VD R RT CI CS
      go_wp2_with fail
      refine (drawEncodeTerm_ok a n ca xs _ RA hB hn (by omega)).mono ?_
      rintro e w20 ⟨c20, d20, k20, tb, q, rfl, ⟨hl20, hk20, hkd20, hnc20, hok20⟩, hq20, R20, b20⟩
      replace B := thenB B b20
      clear b20 RA
      have CF := fun w h => implEncodeTerm_ok c20 k20 d20 tb q w h hl20 (by unfold maxLen; omega) hkd20 hok20
      have CT := fun w h => specEncodeTerm_ok c20 k20 d20 tb q w h hl20 (by unfold maxLen; omega) hkd20
      have hfl := Hid.mk (en_len7 tb q)
      have hPb := Hid.mk (bytes_enB (xs := tb) (q := q))
      by_cases hk : enC tb q = 0
      · skip
        obtain ⟨P, hP⟩ : ∃ P, deT [] (enB tb q) = P := ⟨_, rfl⟩
        obtain ⟨p1, p2, p3, p4⟩ := wire_same hk hP
        rw [hk] at CF
        obtain ⟨N, hN⟩ : ∃ N, (enB tb q).length = N := ⟨_, rfl⟩
        rw [hN] at CF hfl
        have CD := fun c d w h h2 hc => implDecodeTerm_ok none 0 0 [] c N d (enB tb q) w h rfl (by omega) (fun t ht => by simp at ht) h2 hPb.out hN (by have := hfl.out; omega) hc
        rw [hP, p1] at CD
        obtain ⟨pc, pk, pl⟩ := P
        simp only at p1 p2 p3 p4 CD
        obtain ⟨pn, hpn⟩ : ∃ l, pl.length = l := ⟨_, rfl⟩
        rw [hpn] at CD
        have hpl4 : pn ≤ 400 := by rw [← hpn]; exact (tfC_zero p2).1
        have hokp := tfC_ok p2
        have CSm := fun c d w h h2 => implSameTerms_ok c20 k20 d20 tb q c pn d pl pk w h hl20 (by unfold maxLen; omega) hok20 h2 hpn (by unfold maxLen; omega) hokp
        rw [p3] at CSm
        have C1 := fun w h => implDepthOf_ok c20 k20 d20 tb q w h hl20 (by unfold maxLen; omega) hkd20 hok20
        have C2 := fun c d w h hc => implDepthOf_ok c pn d pl pk w h hpn (by unfold maxLen; omega) hc hokp
        rw [p4] at C1
        generalize dpV pl pk = dv at *
        generalize akC tb q = ka at *
        generalize akC pl pk = kb at *
        have HN := Hid.mk hN
        have HPN := Hid.mk hpn
        generalize enB tb q = Y at *
        replace CF := Hid.mk CF
        replace CD := Hid.mk CD
        replace CSm := Hid.mk CSm
        replace C1 := Hid.mk C1
        replace C2 := Hid.mk C2
        clear hP p1 p2 p3 p4 hk hN hpn CT hok20 hokp
        have hq := field_i1W
        have Bo := B
        go_wp2_with fail
        refine (CF.out _ R20).mono ?_
        rintro e w21 ⟨c21, d21, rfl, O21, b21⟩
        have S21 := b21.size
        replace R20 := R20.kept b21
        replace B := thenB B b21
        clear b21
        have Bo := B
        have hc21 := O21.cap
        rw [HN.out] at hc21
        replace R20 := R20.kept (belowA w21 (.cells #[.int .i64 0, .slice c21 N d21] 31))
        replace O21 := O21.kept (belowA w21 (.cells #[.int .i64 0, .slice c21 N d21] 31))
        replace B := thenB B (belowA w21 (.cells #[.int .i64 0, .slice c21 N d21] 31))
        have VE := V.new w21 [.int .i64 0, .slice c21 N d21] 31
        obtain ⟨s_VE, f_VE, z_VE⟩ := VE.open
        have Bo := B
        go_wp2_with fail
        refine (CD.out c21 d21 _ (.inl rfl) O21.rd hc21).mono ?_
        rintro e w22 ⟨c22, d22, rfl, O22, b22⟩
        clear s_VE f_VE z_VE
        have S22 := b22.size
        simp only [World.size_alloc] at S22
        replace VE := VE.kept b22
        replace R20 := R20.kept b22
        replace O21 := O21.kept b22
        replace B := thenB B b22
        clear b22
        obtain ⟨s_VE, f_VE, z_VE⟩ := VE.open
        have Bo := B
        have hc22 := ownTerm_le O22
        rw [HPN.out] at hc22
        have hz21 := O21.lt
        clear O21 hz21
        replace VE := VE.kept (belowA w22 (.cells #[.int .i64 0, .int .i64 pk, .slice c22 pn d22] 28))
        replace R20 := R20.kept (belowA w22 (.cells #[.int .i64 0, .int .i64 pk, .slice c22 pn d22] 28))
        replace O22 := O22.kept (belowA w22 (.cells #[.int .i64 0, .int .i64 pk, .slice c22 pn d22] 28))
        replace B := thenB B (belowA w22 (.cells #[.int .i64 0, .int .i64 pk, .slice c22 pn d22] 28))
        have VX := V.new w22 [.int .i64 0, .int .i64 pk, .slice c22 pn d22] 28
        clear s_VE f_VE z_VE
        have K : ∀ w' : World, Below (w22.alloc (.cells #[.int .i64 0, .int .i64 pk, .slice c22 pn d22] 28)).heap.size (w22.alloc (.cells #[.int .i64 0, .int .i64 pk, .slice c22 pn d22] 28)) w' → (w'.cell? ⟨w22.heap.size, 0, none⟩ = some (.int .i64 0) ∧ w'.cell? ⟨w22.heap.size, 1, none⟩ = some (.int .i64 pk) ∧ w'.cell? ⟨w22.heap.size, 2, none⟩ = some (.slice c22 pn d22)) := fun w' h => ⟨(VX.kept h).2.1 0 (by simp), (VX.kept h).2.1 1 (by simp), (VX.kept h).2.1 2 (by simp)⟩
        have K := Hid.mk K
        obtain ⟨s_VE, f_VE, z_VE⟩ := VE.open
        obtain ⟨s_VX, f_VX, z_VX⟩ := VX.open
        go_wp2_with fail
        clear s_VE f_VE z_VE s_VX f_VX z_VX
        refine wp_region_held_drew (S := (fun w' => w'.cell? ⟨w22.heap.size, 0, none⟩ = some (.int .i64 0) ∧ w'.cell? ⟨w22.heap.size, 1, none⟩ = some (.int .i64 pk) ∧ w'.cell? ⟨w22.heap.size, 2, none⟩ = some (.slice c22 pn d22))) (by kernel_rfl) (K.out _ (Below.refl _ _).drew) (fun hHeld => ?_)
        refine wpAnyH_take (i := 0) (oi := _) (v := ?vsnu1) rfl (by kernel_rfl) (by kernel_rfl) (by kernel_rfl) (fun _ _ _ h => h) (Or.inl ⟨by kernel_rfl, ?hysnu1⟩) hHeld ?restsnu1
        case hysnu1 => (intro w hSw; (try dsimp only at hSw); go_simp; first | done | with_reducible rfl)
        try simp only [Act.put, List.getElem_toArray, List.getElem_cons_zero, List.setIfInBounds_toArray, List.set_cons_zero, List.set_cons_succ]
        refine wpAnyH_take (i := 1) (oi := _) (v := ?vsnu2) rfl (by kernel_rfl) (by kernel_rfl) (by kernel_rfl) (fun _ _ _ h => h) (Or.inl ⟨by kernel_rfl, ?hysnu2⟩) hHeld ?restsnu2
        case hysnu2 => (intro w hSw; (try dsimp only at hSw); go_simp; first | done | with_reducible rfl)
        try simp only [Act.put, List.getElem_toArray, List.getElem_cons_zero, List.getElem_cons_succ, List.setIfInBounds_toArray, List.set_cons_zero, List.set_cons_succ]
        refine wpAnyH_take (i := 2) (oi := _) (v := ?vsnu3) rfl (by kernel_rfl) (by kernel_rfl) (by kernel_rfl) (fun _ _ _ h => h) (Or.inl ⟨by kernel_rfl, ?hysnu3⟩) hHeld ?restsnu3
        case hysnu3 => (intro w hSw; (try dsimp only at hSw); go_simp; first | done | with_reducible rfl)
        try simp only [Act.put, List.getElem_toArray, List.getElem_cons_zero, List.getElem_cons_succ, List.setIfInBounds_toArray, List.set_cons_zero, List.set_cons_succ]
        refine wpAnyH_take (i := 3) (oi := _) (v := ?vsnu4) rfl (by kernel_rfl) (by kernel_rfl) (by kernel_rfl) (fun _ _ _ h => h) (Or.inl ⟨by kernel_rfl, ?hysnu4⟩) hHeld ?restsnu4
        case hysnu4 => (intro w hSw; (try dsimp only at hSw); go_simp; first | done | with_reducible rfl)
        try simp only [Act.put, List.getElem_toArray, List.getElem_cons_zero, List.getElem_cons_succ, List.setIfInBounds_toArray, List.set_cons_zero, List.set_cons_succ]
        refine wpAnyH_take (i := 4) (oi := _) (v := ?vsnu5) rfl (by kernel_rfl) (by kernel_rfl) (by kernel_rfl) (fun _ _ _ h => h) (Or.inl ⟨by kernel_rfl, ?hysnu5⟩) hHeld ?restsnu5
        case hysnu5 => (intro w hSw; (try dsimp only at hSw); go_simp; first | done | with_reducible rfl)
        try simp only [Act.put, List.getElem_toArray, List.getElem_cons_zero, List.getElem_cons_succ, List.setIfInBounds_toArray, List.set_cons_zero, List.set_cons_succ]
        refine wpAnyH_take (i := 5) (oi := _) (v := ?vsnu6) rfl (by kernel_rfl) (by kernel_rfl) (by kernel_rfl) (fun _ _ _ h => h) (Or.inl ⟨by kernel_rfl, ?hysnu6⟩) hHeld ?restsnu6
        case hysnu6 => (intro w hSw; (try dsimp only at hSw); go_simp; first | done | with_reducible rfl)
        try simp only [Act.put, List.getElem_toArray, List.getElem_cons_zero, List.getElem_cons_succ, List.setIfInBounds_toArray, List.set_cons_zero, List.set_cons_succ]
        refine wpAnyH_take (i := 6) (oi := _) (v := ?vsnu7) rfl (by kernel_rfl) (by kernel_rfl) (by kernel_rfl) (fun _ _ _ h => h) (Or.inl ⟨by kernel_rfl, ?hysnu7⟩) hHeld ?restsnu7
        case hysnu7 => (intro w hSw; (try dsimp only at hSw); go_simp; first | done | with_reducible rfl)
        try simp only [Act.put, List.getElem_toArray, List.getElem_cons_zero, List.getElem_cons_succ, List.setIfInBounds_toArray, List.set_cons_zero, List.set_cons_succ]
        refine wpAnyH_take (i := 7) (oi := _) (v := ?vsnu8) rfl (by kernel_rfl) (by kernel_rfl) (by kernel_rfl) (fun _ _ _ h => h) (Or.inl ⟨by kernel_rfl, ?hysnu8⟩) hHeld ?restsnu8
        case hysnu8 => (intro w hSw; (try dsimp only at hSw); go_simp; first | done | with_reducible rfl)
        try simp only [Act.put, List.getElem_toArray, List.getElem_cons_zero, List.getElem_cons_succ, List.setIfInBounds_toArray, List.set_cons_zero, List.set_cons_succ]
        refine wpAnyH_take (i := 8) (oi := _) (v := ?vsnu9) rfl (by kernel_rfl) (by kernel_rfl) (by kernel_rfl) (fun _ _ _ h => h) (Or.inl ⟨by kernel_rfl, ?hysnu9⟩) hHeld ?restsnu9
        case hysnu9 => (intro w hSw; (try dsimp only at hSw); go_simp; first | done | with_reducible rfl)
        try simp only [Act.put, List.getElem_toArray, List.getElem_cons_zero, List.getElem_cons_succ, List.setIfInBounds_toArray, List.set_cons_zero, List.set_cons_succ]
        refine wpAnyH_take (i := 9) (oi := _) (v := ?vsnu10) rfl (by kernel_rfl) (by kernel_rfl) (by kernel_rfl) (fun _ _ _ h => h) (Or.inl ⟨by kernel_rfl, ?hysnu10⟩) hHeld ?restsnu10
        case hysnu10 => (intro w hSw; (try dsimp only at hSw); go_simp; first | done | with_reducible rfl)
        try simp only [Act.put, List.getElem_toArray, List.getElem_cons_zero, List.getElem_cons_succ, List.setIfInBounds_toArray, List.set_cons_zero, List.set_cons_succ]
        refine wpAnyH_ready (rs := [10]) (by kernel_rfl) (by simp) ?_
        refine AllReadyH.cons (o := _) rfl (fun K0 hK0 => ?_) AllReadyH.nil
        go_simp
        go_at_call 11
        refine (CSm.out c22 d22 _ (R20.kept (Below.refl _ _).drew) (O22.rd.kept (Below.refl _ _).drew)).mono ?_
        rintro e wsnv11 ⟨rfl, bsnv11⟩
        refine hK0.out _ _ (K.out _ (thenB (Below.refl _ _).drew bsnv11)) (fun hHeld => ?_)
        clear hK0 K0
        try simp only [Act.put, List.getElem_toArray, List.getElem_cons_zero, List.getElem_cons_succ, List.setIfInBounds_toArray, List.set_cons_zero, List.set_cons_succ]
        refine wpAnyH_take (i := 11) (oi := _) (v := ?vsnu12) rfl (by kernel_rfl) (by kernel_rfl) (by kernel_rfl) (fun _ _ _ h => h) (Or.inl ⟨by kernel_rfl, ?hysnu12⟩) hHeld ?restsnu12
        case hysnu12 => (intro w hSw; (try dsimp only at hSw); go_simp; first | done | with_reducible rfl)
        try simp only [Act.put, List.getElem_toArray, List.getElem_cons_zero, List.getElem_cons_succ, List.setIfInBounds_toArray, List.set_cons_zero, List.set_cons_succ]
        refine wpAnyH_take (i := 12) (oi := _) (v := ?vsnu13) rfl (by kernel_rfl) (by kernel_rfl) (by kernel_rfl) (fun _ _ _ h => h) (Or.inl ⟨by kernel_rfl, ?hysnu13⟩) hHeld ?restsnu13
        case hysnu13 => (intro w hSw; (try dsimp only at hSw); go_simp; first | done | with_reducible rfl)
        try simp only [Act.put, List.getElem_toArray, List.getElem_cons_zero, List.getElem_cons_succ, List.setIfInBounds_toArray, List.set_cons_zero, List.set_cons_succ]
        refine wpAnyH_take (i := 13) (oi := _) (v := ?vsnu14) rfl (by kernel_rfl) (by kernel_rfl) (by kernel_rfl) (fun _ _ _ h => h) (Or.inl ⟨by kernel_rfl, ?hysnu14⟩) hHeld ?restsnu14
        case hysnu14 => (intro w hSw; (try dsimp only at hSw); go_simp; first | done | with_reducible rfl)
        try simp only [Act.put, List.getElem_toArray, List.getElem_cons_zero, List.getElem_cons_succ, List.setIfInBounds_toArray, List.set_cons_zero, List.set_cons_succ]
        refine wpAnyH_take (i := 14) (oi := _) (v := ?vsnu15) rfl (by kernel_rfl) (by kernel_rfl) (by kernel_rfl) (fun _ _ _ h => h) (Or.inl ⟨by kernel_rfl, ?hysnu15⟩) hHeld ?restsnu15
        case hysnu15 => (intro w hSw; (try dsimp only at hSw); go_simp; first | done | with_reducible rfl)
        try simp only [Act.put, List.getElem_toArray, List.getElem_cons_zero, List.getElem_cons_succ, List.setIfInBounds_toArray, List.set_cons_zero, List.set_cons_succ]
        refine wpAnyH_take (i := 17) (oi := _) (v := ?vsnu16) rfl (by kernel_rfl) (by kernel_rfl) (by kernel_rfl) (fun _ _ _ h => h) (Or.inl ⟨by kernel_rfl, ?hysnu16⟩) hHeld ?restsnu16
        case hysnu16 => (intro w hSw; (try dsimp only at hSw); go_simp; first | done | with_reducible rfl)
        try simp only [Act.put, List.getElem_toArray, List.getElem_cons_zero, List.getElem_cons_succ, List.setIfInBounds_toArray, List.set_cons_zero, List.set_cons_succ]
        refine wpAnyH_take (i := 18) (oi := _) (v := ?vsnu17) rfl (by kernel_rfl) (by kernel_rfl) (by kernel_rfl) (fun _ _ _ h => h) (Or.inl ⟨by kernel_rfl, ?hysnu17⟩) hHeld ?restsnu17
        case hysnu17 => (intro w hSw; (try dsimp only at hSw); go_simp; first | done | with_reducible rfl)
        try simp only [Act.put, List.getElem_toArray, List.getElem_cons_zero, List.getElem_cons_succ, List.setIfInBounds_toArray, List.set_cons_zero, List.set_cons_succ]
        refine wpAnyH_take (i := 19) (oi := _) (v := ?vsnu18) rfl (by kernel_rfl) (by kernel_rfl) (by kernel_rfl) (fun _ _ _ h => h) (Or.inl ⟨by kernel_rfl, ?hysnu18⟩) hHeld ?restsnu18
        case hysnu18 => (intro w hSw; (try dsimp only at hSw); go_simp; first | done | with_reducible rfl)
        try simp only [Act.put, List.getElem_toArray, List.getElem_cons_zero, List.getElem_cons_succ, List.setIfInBounds_toArray, List.set_cons_zero, List.set_cons_succ]
        refine wpAnyH_take (i := 20) (oi := _) (v := ?vsnu19) rfl (by kernel_rfl) (by kernel_rfl) (by kernel_rfl) (fun _ _ _ h => h) (Or.inl ⟨by kernel_rfl, ?hysnu19⟩) hHeld ?restsnu19
        case hysnu19 => (intro w hSw; (try dsimp only at hSw); go_simp; first | done | with_reducible rfl)
        try simp only [Act.put, List.getElem_toArray, List.getElem_cons_zero, List.getElem_cons_succ, List.setIfInBounds_toArray, List.set_cons_zero, List.set_cons_succ]
        refine wpAnyH_ready (rs := [15]) (by kernel_rfl) (by simp) ?_
        refine AllReadyH.cons (o := _) rfl (fun K0 hK0 => ?_) AllReadyH.nil
        go_simp
        go_at_call 12
        refine (C1.out _ (R20.kept (thenB (Below.refl _ _).drew bsnv11))).mono ?_
        rintro e wsnv20 ⟨rfl, bsnv20⟩
        refine hK0.out _ _ (K.out _ (thenB (thenB (Below.refl _ _).drew bsnv11) bsnv20)) (fun hHeld => ?_)
        clear hK0 K0
        try simp only [Act.put, List.getElem_toArray, List.getElem_cons_zero, List.getElem_cons_succ, List.setIfInBounds_toArray, List.set_cons_zero, List.set_cons_succ]
        refine wpAnyH_take (i := 16) (oi := _) (v := ?vsnu21) rfl (by kernel_rfl) (by kernel_rfl) (by kernel_rfl) (fun _ _ _ h => h) (Or.inl ⟨by kernel_rfl, ?hysnu21⟩) hHeld ?restsnu21
        case hysnu21 => (intro w hSw; (try dsimp only at hSw); go_simp; first | done | with_reducible rfl)
        try simp only [Act.put, List.getElem_toArray, List.getElem_cons_zero, List.getElem_cons_succ, List.setIfInBounds_toArray, List.set_cons_zero, List.set_cons_succ]
        refine wpAnyH_ready (rs := [21]) (by kernel_rfl) (by simp) ?_
        refine AllReadyH.cons (o := _) rfl (fun K0 hK0 => ?_) AllReadyH.nil
        go_simp
        go_at_call 12
        refine (C2.out c22 d22 _ (O22.rd.kept (thenB (thenB (Below.refl _ _).drew bsnv11) bsnv20)) hc22).mono ?_
        rintro e wsnv22 ⟨rfl, bsnv22⟩
        refine hK0.out _ _ (K.out _ (thenB (thenB (thenB (Below.refl _ _).drew bsnv11) bsnv20) bsnv22)) (fun hHeld => ?_)
        clear hK0 K0
        try simp only [Act.put, List.getElem_toArray, List.getElem_cons_zero, List.getElem_cons_succ, List.setIfInBounds_toArray, List.set_cons_zero, List.set_cons_succ]
        refine wpAnyH_take (i := 22) (oi := _) (v := ?vsnu23) rfl (by kernel_rfl) (by kernel_rfl) (by kernel_rfl) (fun _ _ _ h => h) (Or.inl ⟨by kernel_rfl, ?hysnu23⟩) hHeld ?restsnu23
        case hysnu23 => (intro w hSw; (try dsimp only at hSw); go_simp; first | done | with_reducible rfl)
        try simp only [Act.put, List.getElem_toArray, List.getElem_cons_zero, List.getElem_cons_succ, List.setIfInBounds_toArray, List.set_cons_zero, List.set_cons_succ]
        refine wpAnyH_take (i := 23) (oi := _) (v := ?vsnu24) rfl (by kernel_rfl) (by kernel_rfl) (by kernel_rfl) (fun _ _ _ h => h) (Or.inl ⟨by kernel_rfl, ?hysnu24⟩) hHeld ?restsnu24
        case hysnu24 => (intro w hSw; (try dsimp only at hSw); go_simp; first | done | with_reducible rfl)
        try simp only [Act.put, List.getElem_toArray, List.getElem_cons_zero, List.getElem_cons_succ, List.setIfInBounds_toArray, List.set_cons_zero, List.set_cons_succ]
        refine wpAnyH_take (i := 24) (oi := _) (v := ?vsnu25) rfl (by kernel_rfl) (by kernel_rfl) (by kernel_rfl) (fun _ _ _ h => h) (Or.inl ⟨by kernel_rfl, ?hysnu25⟩) hHeld ?restsnu25
        case hysnu25 => (intro w hSw; (try dsimp only at hSw); go_simp; first | done | with_reducible rfl)
        try simp only [Act.put, List.getElem_toArray, List.getElem_cons_zero, List.getElem_cons_succ, List.setIfInBounds_toArray, List.set_cons_zero, List.set_cons_succ]
        refine wpAnyH_take (i := 25) (oi := _) (v := ?vsnu26) rfl (by kernel_rfl) (by kernel_rfl) (by kernel_rfl) (fun _ _ _ h => h) (Or.inl ⟨by kernel_rfl, ?hysnu26⟩) hHeld ?restsnu26
        case hysnu26 => (intro w hSw; (try dsimp only at hSw); go_simp; first | done | with_reducible rfl)
        try simp only [Act.put, List.getElem_toArray, List.getElem_cons_zero, List.getElem_cons_succ, List.setIfInBounds_toArray, List.set_cons_zero, List.set_cons_succ]
        refine wpAnyH_done (by kernel_rfl) ?_ _
        have bacc : Below (w22.alloc (.cells #[.int .i64 0, .int .i64 pk, .slice c22 pn d22] 28)).heap.size (w22.alloc (.cells #[.int .i64 0, .int .i64 pk, .slice c22 pn d22] 28)) _ := (thenB (thenB (thenB (Below.refl _ _).drew bsnv11) bsnv20) bsnv22)
        replace VE := VE.kept bacc
        replace VX := VX.kept bacc
        replace R20 := R20.kept bacc
        replace O22 := O22.kept bacc
        replace B := thenB B bacc
        clear bacc K
        have Bf := B
        clear O22 VX VE R20
        go_wp2
        go_ret
        exact ⟨rfl, Bf⟩
      · skip
        have hk1 : (enC tb q != 0) = true := by simp [hk]
        generalize enB tb q = Y at *
        obtain ⟨N, hN⟩ : ∃ N, Y.length = N := ⟨_, rfl⟩
        rw [hN] at CF CT
        generalize enC tb q = kk at *
        clear hN hk hl20 hok20
        replace CF := Hid.mk CF
        replace CT := Hid.mk CT
        have hfd := field_b0W (.int .i64 kk)
        have Bo := B
        go_wp2_with fail
        refine (CF.out _ R20).mono ?_
        rintro e w21 ⟨c21, d21, rfl, O21, b21⟩
        have S21 := b21.size
        replace R20 := R20.kept b21
        replace B := thenB B b21
        clear b21
        have Bo := B
        clear O21
        replace R20 := R20.kept (belowA w21 (.cells #[.int .i64 kk, .slice c21 N d21] 31))
        replace B := thenB B (belowA w21 (.cells #[.int .i64 kk, .slice c21 N d21] 31))
        have VE := V.new w21 [.int .i64 kk, .slice c21 N d21] 31
        obtain ⟨s_VE, f_VE, z_VE⟩ := VE.open
        have Bo := B
        clear s_VE f_VE z_VE
        have K : ∀ w' : World, Below ((w21.alloc (.cells #[.int .i64 kk, .slice c21 N d21] 31))).heap.size (w21.alloc (.cells #[.int .i64 kk, .slice c21 N d21] 31)) w' → w'.cell? ⟨w21.heap.size, 0, none⟩ = some (.int .i64 kk) := fun w' h => (VE.kept h).2.1 0 (by simp)
        have K := Hid.mk K
        obtain ⟨s_VE, f_VE, z_VE⟩ := VE.open
        go_wp2_with fail
        go_region_held3 (fun w' => w'.cell? ⟨w21.heap.size, 0, none⟩ = some (.int .i64 kk)) (first | exact K.out _ (thenB (Below.refl _ _).drew b3) | exact K.out _ (Below.refl _ _).drew) ((go_at_call 10; refine (CT.out _ (R20.kept (Below.refl _ _).drew)).mono ?_; rintro e w3 ⟨c3, d3, rfl, O3, b3⟩))
        have B3 := thenB B (thenB (Below.refl _ _).drew b3)
        go_wp2
        go_ret
        exact ⟨rfl, B3⟩
  · go_enter Tryz.func3, Tryz.ntmps3
    go_wp2_with (first | (go_at_call 4; go_in) | fail)
    go_ret
    exact ⟨rfl, Below.refl _ _⟩

end Go.Proofs.YtfldgeokigcokaaGreat
