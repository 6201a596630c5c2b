/- The reader's 'term': names and secrets. -/
import Derived.Test.YtfldgeokigcokaaGreatRdrA
namespace Go.Proofs.YtfldgeokigcokaaGreat
open Go.RowKit

theorem Sm.more {X Y : Nat → Prop} {w w' : World} (h : Sm X w w') (hx : ∀ k, X k → Y k) : Sm Y w w' := ⟨h.os, h.tape, h.output, h.size, fun k hk hn => h.block k hk (fun e => hn (hx k e))⟩

/-- What 'term' leaves: nothing but a code, or the term that it has read, put into the book. -/
def TermRead (f : Nat) (xs : List T4) (ds : List Int) (base P pb g bx : Nat) (c : Option Addr) (w : World) : Ending → World → Prop := fun e w' =>
  Sm (fun k => k = P ∨ BkX pb g c k) w w' ∧ ((rd1 f xs ds = none ∧ e = stop 5) ∨ ∃ (A : Go.Proofs.YtfldgeokigcokaaGreat.Put) (r : List Int), rd1 f xs ds = some (A, r) ∧ e = .returned (.int .i64 A.k) ∧
    (∃ c' d', Bk w' base pb g c' d' A.l ∧ ∀ k, BkX pb g c' k → k < w.heap.size → BkX pb g c k) ∧ ∃ x' d', Rdr w' P (.pointer (some ⟨pb, 0, none⟩)) bx x' r.length d' r)

/-- 'term' at bytes of so many. -/
def TermOk (f : Nat) (base P pb g bx : Nat) : Prop :=
  ∀ (xs : List T4) (ds : List Int) (x : Option Addr) (m d : Nat) (c : Option Addr) (dd : Nat) (w : World), ds.length ≤ f → Rdr w P (.pointer (some ⟨pb, 0, none⟩)) bx x m d ds → Bytes ds → Bk w base pb g c dd xs → tfC xs = 0 → (∀ k, BkX pb g c k → k ≠ P) → base ≤ P → bx < base →
    Calls Tryz.prog 42 #[.pointer (some ⟨P, 0, none⟩)] w (TermRead f xs ds base P pb g bx c w)

theorem build_tmo (o : Int) (w : World) : (Instr.build 70 #[(0, .int .i64 o)]).run Tryz.prog w = .ok (.agg #[.int .i64 o, .int .i64 0, .int .i64 0, .int .i64 0]) w := run_build w 70 _ _ (by kernel_rfl)

theorem takeN_head (o : Int) (r : List Int) : takeN (o :: r) 0 1 = o := by
  rw [show (1 : Nat) = 0 + 1 from rfl, takeN_succ]; simp [takeN]

theorem takeN_pair (r : List Int) : takeN r 0 2 = r.getD 0 0 * 256 + r.getD 1 0 := by
  rw [show (2 : Nat) = 0 + 1 + 1 from rfl, takeN_succ, takeN_succ]; simp [takeN]

theorem bytes_tail {o : Int} {r : List Int} (h : Bytes (o :: r)) : Bytes r := fun z hz => h z (by simp [hz])
theorem bytes_dropN {r : List Int} (h : Bytes r) (n : Nat) : Bytes (r.drop n) := fun z hz => h z (List.mem_of_mem_drop hz)
theorem okT_of {o a b n : Int} (h1 : 0 ≤ o ∧ o < 1000000) (h2 : 0 ≤ a ∧ a < 1000000) (h3 : 0 ≤ b ∧ b < 1000000) (h4 : 0 ≤ n ∧ n < 1000000) : okT ⟨o, a, b, n⟩ := ⟨okI_of (by simp only; omega) (by simp only; omega), okI_of (by simp only; omega) (by simp only; omega), okI_of (by simp only; omega) (by simp only; omega), okI_of (by simp only; omega) (by simp only; omega)⟩
theorem okP {i : Int} (h : 0 ≤ i ∧ i < 1000000) : okI i := okI_of (by omega) (by omega)

set_option maxRecDepth 20000 in
set_option maxHeartbeats 16000000 in
theorem term_leaf1 (f base P pb g bx : Nat) (xs : List T4) (r : List Int) (x : Option Addr) (m d : Nat) (c : Option Addr) (dd : Nat) (w : World) (R : Rdr w P (.pointer (some ⟨pb, 0, none⟩)) bx x m d (1 :: r)) (hb : Bytes (1 :: r)) (H : Bk w base pb g c dd xs) (ht : tfC xs = 0) (hP : ∀ k, BkX pb g c k → k ≠ P) (hbP : base ≤ P) (hbx : bx < base) :
    Calls Tryz.prog 42 #[.pointer (some ⟨P, 0, none⟩)] w (TermRead (f + 1) xs (1 :: r) base P pb g bx c w) := by
  have q1 := build_tmo
  unfold TermRead
  have hx4 := (tfC_zero ht).1
  have hml := R.len
  simp only [List.length_cons] at hml
  have hbr := bytes_tail hb
  have hne : bx ≠ P := by omega
  have CN := number_ok P (.pointer (some ⟨pb, 0, none⟩)) bx x m d (1 :: r) 1 w R hb (by decide) (by decide) (by omega) hne
  rw [takeN_head, show ((1 : Nat) : Int) = 1 from rfl, List.drop_succ_cons, List.drop_zero] at CN
  replace CN := Hid.mk CN
  have hPl := R.v.1
  have HX := Hid.mk hP
  have HLT := Hid.mk H.lt
  have HT := Hid.mk ht
  by_cases h2 : 2 ≤ r.length
  · skip
    have hn0 := hbr.at 0
    have hn1 := hbr.at 1
    obtain ⟨nn, hnn⟩ : ∃ nn, r.getD 0 0 * 256 + r.getD 1 0 = nn := ⟨_, rfl⟩
    go_enter Tryz.func42, Tryz.ntmps42
    go_wp2_with fail
    refine CN.out.mono ?_
    rintro e w1 ⟨rfl, S1, x1, R1⟩
    have H1 := H.sm S1 (fun k e => by subst e; exact fun h => HX.out _ h rfl)
    have S : Sm (fun k => k = P ∨ BkX pb g c k) w w1 := S1.more (fun k e => .inl e)
    have hs1 := S1.size
    have HC : Hid (∀ k, BkX pb g c k → k < w.heap.size → BkX pb g c k) := Hid.mk (fun k h _ => h)
    clear R H S1 CN
    have R := R1
    have H := H1
    clear R1 H1
    replace R := R.kept (belowA w1 (.cells #[.int .i64 1, .int .i64 0, .int .i64 0, .int .i64 0] 70))
    replace H := H.kept (belowA w1 (.cells #[.int .i64 1, .int .i64 0, .int .i64 0, .int .i64 0] 70))
    replace S := S.trans (Sm.below (belowA w1 (.cells #[.int .i64 1, .int .i64 0, .int .i64 0, .int .i64 0] 70)))
    have VT := V.new w1 [.int .i64 1, .int .i64 0, .int .i64 0, .int .i64 0] 70
    have hT1 : w.heap.size ≤ w1.heap.size := hs1
    have hTB : Hid (P < w1.heap.size ∧ ∀ k, BkX pb g c k → k < w1.heap.size) := Hid.mk ⟨by omega, fun k h => by have := (HLT.out k h).2; omega⟩
    obtain ⟨s_VT, f_VT, z_VT⟩ := VT.open
    clear s_VT f_VT z_VT
    have CN2 := number_ok P (.pointer (some ⟨pb, 0, none⟩)) bx x1 (m - 1) (d - 1) r 2 _ R hbr (by decide) (by decide) (by omega) hne
    rw [takeN_pair, show ((2 : Nat) : Int) = 2 from rfl, hnn] at CN2
    replace CN2 := Hid.mk CN2
    obtain ⟨s_VT, f_VT, z_VT⟩ := VT.open
    go_wp2_with fail
    refine CN2.out.mono ?_
    rintro e w2 ⟨rfl, S2, x2, R2⟩
    clear s_VT f_VT z_VT
    have hs2 := S2.size
    simp only [World.size_alloc] at hs2
    have H2 := H.sm S2 (fun k e => by subst e; exact fun h => HX.out _ h rfl)
    have VT2 := VT.sm S2 (by have := hTB.out.1; omega)
    have Sn : Sm (fun k => k = P ∨ BkX pb g c k) w w2 := S.trans (S2.more (fun k e => .inl e))
    clear R H S S2 VT CN2
    have R := R2
    have H := H2
    have S := Sn
    have VT := VT2
    clear R2 H2 Sn VT2
    obtain ⟨s_VT, f_VT, z_VT⟩ := VT.open
    clear s_VT f_VT z_VT
    have VT2 := VT.set (i := 3) (by simp) (.int .i64 nn)
    simp only [List.set_cons_zero, List.set_cons_succ] at VT2
    have hPT : P < w1.heap.size := hTB.out.1
    have R2 : Rdr (w2.setCell ⟨w1.heap.size, 3, none⟩ (.int .i64 nn)) P (.pointer (some ⟨pb, 0, none⟩)) bx x2 (m - 1 - 2) (d - 1 - 2) (r.drop 2) := R.sm (X := fun k => k = w1.heap.size) (Sm.cell (X := fun k => k = w1.heap.size) rfl _) (by omega) (by omega)
    have H2 : Bk (w2.setCell ⟨w1.heap.size, 3, none⟩ (.int .i64 nn)) base pb g c dd xs := H.sm (X := fun k => k = w1.heap.size) (Sm.cell (X := fun k => k = w1.heap.size) rfl _) (fun k e h => by have := hTB.out.2 k h; omega)
    have S2 := S.newCell (p := ⟨w1.heap.size, 3, none⟩) (by simp only; omega) (.int .i64 nn)
    obtain ⟨s_VT, f_VT, z_VT⟩ := VT.open
    go_upto_region 14 with fail
    clear s_VT f_VT z_VT R H S VT
    have R := R2
    have H := H2
    have S := S2
    have VT := VT2
    clear R2 H2 S2 VT2
    generalize w2.setCell ⟨w1.heap.size, 3, none⟩ (.int .i64 nn) = w3 at *
    have CU := fun w h => put_ok base pb g c dd xs ⟨1, 0, 0, nn⟩ w h (okT_of (by decide) (by decide) (by decide) (by omega)) hx4
    simp only at CU
    obtain ⟨Q, hQ⟩ : ∃ Q, put xs ⟨1, 0, 0, nn⟩ = Q := ⟨_, rfl⟩
    have HQ := Hid.mk hQ
    have HPL : Hid (putL xs ⟨1, 0, 0, nn⟩ = if Q.c = 0 then Q.l else xs) := Hid.mk (by unfold putL; rw [hQ])
    rw [hQ] at CU
    replace CU := Hid.mk CU
    clear hQ
    have hPf : ¬ BkX pb g c P := fun h => HX.out P h rfl
    have hTf : ¬ BkX pb g c (w1.heap.size) := by intro e; exact absurd e (by exact fun e => by have := hTB.out.2 _ e; omega)
    have K : ∀ w' : World, Sm (BkX pb g c) w3 w' → (w'.cell? ⟨P, 1, none⟩ = some (.pointer (some ⟨pb, 0, none⟩)) ∧ w'.cell? ⟨w1.heap.size, 0, none⟩ = some (.int .i64 1) ∧ w'.cell? ⟨w1.heap.size, 1, none⟩ = some (.int .i64 0) ∧ w'.cell? ⟨w1.heap.size, 2, none⟩ = some (.int .i64 0) ∧ w'.cell? ⟨w1.heap.size, 3, none⟩ = some (.int .i64 nn)) := fun w' h => ⟨(R.v.sm h hPf).2.1 1 (by simp), (VT.sm h hTf).2.1 0 (by simp), (VT.sm h hTf).2.1 1 (by simp), (VT.sm h hTf).2.1 2 (by simp), (VT.sm h hTf).2.1 3 (by simp)⟩
    have K := Hid.mk K
    have RR := Hid.mk R
    have HH := Hid.mk H
    have SS := Hid.mk S
    have VTT := Hid.mk VT
    have hPz := R.v.1
    clear R H S VT
    go_cut [4] (fun p wx => ∃ (PI : Nat) (c6 : Option Addr) (d6 : Nat), p = .pointer (some ⟨PI, 0, none⟩) ∧ V wx PI [.int .i64 Q.c, .int .i64 Q.k] ∧ Hid (Bk wx base pb g c6 d6 (putL xs ⟨1, 0, 0, nn⟩)) ∧ Hid (Rdr wx P (.pointer (some ⟨pb, 0, none⟩)) bx x2 (m - 1 - 2) (d - 1 - 2) (r.drop 2)) ∧ Hid (Sm (fun k => k = P ∨ BkX pb g c k) w wx) ∧ Hid (∀ k, BkX pb g c6 k → k < w.heap.size → BkX pb g c k))
    case first =>
      refine wp_region_held_drew (S := (fun w' => w'.cell? ⟨P, 1, none⟩ = some (.pointer (some ⟨pb, 0, none⟩)) ∧ w'.cell? ⟨w1.heap.size, 0, none⟩ = some (.int .i64 1) ∧ w'.cell? ⟨w1.heap.size, 1, none⟩ = some (.int .i64 0) ∧ w'.cell? ⟨w1.heap.size, 2, none⟩ = some (.int .i64 0) ∧ w'.cell? ⟨w1.heap.size, 3, none⟩ = some (.int .i64 nn))) (by kernel_rfl) (K.out _ (Sm.below (Below.refl _ _).drew)) (fun hHeld => ?_)
      have bd : Sm (BkX pb g c) w3 w3.drew := Sm.below (Below.refl _ _).drew
      have HBd := Hid.mk (HH.out.kept (Below.refl _ _).drew)
      have hd0 := Hid.mk (show w3.drew.heap.size = w3.heap.size from rfl)
      generalize w3.drew = wd at *
      refine wpAnyH_take (i := 0) (oi := _) (v := ?vtma11) rfl (by kernel_rfl) (by kernel_rfl) (by kernel_rfl) (fun _ _ _ h => h) (Or.inl ⟨by kernel_rfl, ?hytma11⟩) hHeld ?resttma11
      case hytma11 => (intro w hSw; (try dsimp only at hSw); go_simp; first | done | with_reducible rfl)
      try simp only [Act.put, List.getElem_toArray, List.getElem_cons_zero, List.setIfInBounds_toArray, List.set_cons_zero, List.set_cons_succ]
      refine wpAnyH_take (i := 1) (oi := _) (v := ?vtma12) rfl (by kernel_rfl) (by kernel_rfl) (by kernel_rfl) (fun _ _ _ h => h) (Or.inl ⟨by kernel_rfl, ?hytma12⟩) hHeld ?resttma12
      case hytma12 => (intro w hSw; (try dsimp only at hSw); go_simp; first | done | with_reducible rfl)
      try simp only [Act.put, List.getElem_toArray, List.getElem_cons_zero, List.getElem_cons_succ, List.setIfInBounds_toArray, List.set_cons_zero, List.set_cons_succ]
      refine wpAnyH_take (i := 2) (oi := _) (v := ?vtma13) rfl (by kernel_rfl) (by kernel_rfl) (by kernel_rfl) (fun _ _ _ h => h) (Or.inl ⟨by kernel_rfl, ?hytma13⟩) hHeld ?resttma13
      case hytma13 => (intro w hSw; (try dsimp only at hSw); go_simp; first | done | with_reducible rfl)
      try simp only [Act.put, List.getElem_toArray, List.getElem_cons_zero, List.getElem_cons_succ, List.setIfInBounds_toArray, List.set_cons_zero, List.set_cons_succ]
      refine wpAnyH_take (i := 3) (oi := _) (v := ?vtma14) rfl (by kernel_rfl) (by kernel_rfl) (by kernel_rfl) (fun _ _ _ h => h) (Or.inl ⟨by kernel_rfl, ?hytma14⟩) hHeld ?resttma14
      case hytma14 => (intro w hSw; (try dsimp only at hSw); go_simp; first | done | with_reducible rfl)
      try simp only [Act.put, List.getElem_toArray, List.getElem_cons_zero, List.getElem_cons_succ, List.setIfInBounds_toArray, List.set_cons_zero, List.set_cons_succ]
      refine wpAnyH_take (i := 4) (oi := _) (v := ?vtma15) rfl (by kernel_rfl) (by kernel_rfl) (by kernel_rfl) (fun _ _ _ h => h) (Or.inl ⟨by kernel_rfl, ?hytma15⟩) hHeld ?resttma15
      case hytma15 => (intro w hSw; (try dsimp only at hSw); go_simp; first | done | with_reducible rfl)
      try simp only [Act.put, List.getElem_toArray, List.getElem_cons_zero, List.getElem_cons_succ, List.setIfInBounds_toArray, List.set_cons_zero, List.set_cons_succ]
      refine wpAnyH_ready (rs := [5, 6]) (by kernel_rfl) (by simp) ?_
      refine AllReadyH.cons (o := _) rfl (fun K0 hK0 => ?_) (AllReadyH.cons (o := _) rfl (fun K0 hK0 => ?_) AllReadyH.nil)
      · skip
        have HB := HBd.out
        go_simp
        go_at_call 68
        refine (CU.out _ HB).mono ?_
        rintro e w6 ⟨c6, d6, rfl, H6, S6, hc6⟩
        have T6 := bd.trans S6
        have hz6 := S6.size
        refine hK0.out _ _ (K.out _ T6) (fun hHeld => ?_)
        clear hK0 K0
        try simp only [Act.put, List.getElem_toArray, List.getElem_cons_zero, List.getElem_cons_succ, List.setIfInBounds_toArray, List.set_cons_zero, List.set_cons_succ]
        refine wpAnyH_ready (rs := [6]) (by kernel_rfl) (by simp) ?_
        refine AllReadyH.cons (o := _) rfl (fun K0 hK0 => ?_) AllReadyH.nil
        go_simp
        have b7 := belowA w6 (.cells #[.int .i64 0, .int .i64 0] 37)
        have T7 := T6.trans (Sm.below b7)
        have VN : V (w6.alloc (.cells #[.int .i64 0, .int .i64 0] 37)) w6.heap.size [.int .i64 0, .int .i64 0] := V.new _ _ _
        have H7 := H6.kept b7
        refine hK0.out _ _ (K.out _ T7) (fun hHeld => ?_)
        clear hK0 K0
        try simp only [Act.put, List.getElem_toArray, List.getElem_cons_zero, List.getElem_cons_succ, List.setIfInBounds_toArray, List.set_cons_zero, List.set_cons_succ]
        have hz7 : (w6.alloc (.cells #[.int .i64 0, .int .i64 0] 37)).heap.size = w6.heap.size + 1 := World.size_alloc _ _
        have hB6 : ∀ k, BkX pb g c6 k → k ≠ w6.heap.size := fun k h => by have := (H6.lt k h).2; omega
        obtain ⟨PI, hPI⟩ : ∃ PI, w6.heap.size = PI := ⟨_, rfl⟩
        have hPIw : w3.heap.size ≤ PI := by have := hd0.out; omega
        generalize w6.alloc (.cells #[.int .i64 0, .int .i64 0] 37) = wn at *
        rw [hPI] at VN hB6 ⊢
        refine wpAnyH_ready (rs := [7]) (by kernel_rfl) (by simp) ?_
        refine AllReadyH.cons (o := _) rfl (fun K0 hK0 => ?_) AllReadyH.nil
        rw [if_pos (by rfl)]
        have hT := VN.there
        have VF := VN.filled [.int .i64 Q.c, .int .i64 Q.k] rfl
        have HF := H7.apart (B := PI) hB6 0 [.int .i64 Q.c, .int .i64 Q.k]
        have Tn : Sm (BkX pb g c) w3 (World.setCells wn PI 0 [.int .i64 Q.c, .int .i64 Q.k]) := Sm.newCells T7 hPIw 0 _
        have RF := RR.out.sm Tn hPf (fun h => by have := (HH.out.lt _ h).1; omega)
        have SF := Sm.less SS.out.size Tn (fun k hk hx => .inr (HC.out k hx hk)) SS.out
        have CF : ∀ k, BkX pb g c6 k → k < w.heap.size → BkX pb g c k := fun k h hk => HC.out k (hc6 k h (by have := SS.out.size; have := hd0.out; omega)) hk
        refine wp_store_mid _ _ _ rfl PI 0 #[.int .i64 Q.c, .int .i64 Q.k] rfl rfl hT (by kernel_rfl) (by kernel_rfl) ?_
        refine hK0.out _ _ (K.out _ Tn) (fun hHeld => ?_)
        clear hK0 K0
        refine wpAnyH_done (by kernel_rfl) ?_ _
        go_wp2_with fail
        go_meet
        exact ⟨PI, c6, d6, rfl, VF, Hid.mk HF, Hid.mk RF, Hid.mk SF, Hid.mk CF⟩
      · skip
        go_simp
        have b7 := belowA wd (.cells #[.int .i64 0, .int .i64 0] 37)
        have T7 := bd.trans (Sm.below b7)
        have VN0 : V (wd.alloc (.cells #[.int .i64 0, .int .i64 0] 37)) wd.heap.size [.int .i64 0, .int .i64 0] := V.new _ _ _
        have HB := HBd.out.kept b7
        have hz7 : (wd.alloc (.cells #[.int .i64 0, .int .i64 0] 37)).heap.size = wd.heap.size + 1 := World.size_alloc _ _
        refine hK0.out _ _ (K.out _ T7) (fun hHeld => ?_)
        clear hK0 K0
        try simp only [Act.put, List.getElem_toArray, List.getElem_cons_zero, List.getElem_cons_succ, List.setIfInBounds_toArray, List.set_cons_zero, List.set_cons_succ]
        have hBd : ∀ k, BkX pb g c k → k ≠ wd.heap.size := fun k h => by have := (HBd.out.lt k h).2; omega
        obtain ⟨PI, hPI⟩ : ∃ PI, wd.heap.size = PI := ⟨_, rfl⟩
        have hPIw : w3.heap.size ≤ PI := by have := hd0.out; omega
        generalize wd.alloc (.cells #[.int .i64 0, .int .i64 0] 37) = wa at *
        rw [hPI] at VN0 hBd hz7 ⊢
        refine wpAnyH_ready (rs := [5]) (by kernel_rfl) (by simp) ?_
        refine AllReadyH.cons (o := _) rfl (fun K0 hK0 => ?_) AllReadyH.nil
        go_simp
        go_at_call 68
        refine (CU.out _ HB).mono ?_
        rintro e w6 ⟨c6, d6, rfl, H6, S6, hc6⟩
        have T6 := T7.trans S6
        have hz6 := S6.size
        refine hK0.out _ _ (K.out _ T6) (fun hHeld => ?_)
        clear hK0 K0
        try simp only [Act.put, List.getElem_toArray, List.getElem_cons_zero, List.getElem_cons_succ, List.setIfInBounds_toArray, List.set_cons_zero, List.set_cons_succ]
        have VN := VN0.sm S6 (fun h => hBd _ h rfl)
        have hB6 : ∀ k, BkX pb g c6 k → k ≠ PI := fun k h e => hBd k (hc6 k h (by omega)) e
        have hc6' : ∀ k, BkX pb g c6 k → k < wd.heap.size → BkX pb g c k := fun k h hk => hc6 k h (by omega)
        clear hc6
        have hc6 := hc6'
        clear hc6'
        generalize w6 = wn at *
        refine wpAnyH_ready (rs := [7]) (by kernel_rfl) (by simp) ?_
        refine AllReadyH.cons (o := _) rfl (fun K0 hK0 => ?_) AllReadyH.nil
        rw [if_pos (by rfl)]
        have hT := VN.there
        have VF := VN.filled [.int .i64 Q.c, .int .i64 Q.k] rfl
        have HF := H6.apart (B := PI) hB6 0 [.int .i64 Q.c, .int .i64 Q.k]
        have Tn : Sm (BkX pb g c) w3 (World.setCells wn PI 0 [.int .i64 Q.c, .int .i64 Q.k]) := Sm.newCells T6 hPIw 0 _
        have RF := RR.out.sm Tn hPf (fun h => by have := (HH.out.lt _ h).1; omega)
        have SF := Sm.less SS.out.size Tn (fun k hk hx => .inr (HC.out k hx hk)) SS.out
        have CF : ∀ k, BkX pb g c6 k → k < w.heap.size → BkX pb g c k := fun k h hk => HC.out k (hc6 k h (by have := SS.out.size; have := hd0.out; omega)) hk
        refine wp_store_mid _ _ _ rfl PI 0 #[.int .i64 Q.c, .int .i64 Q.k] rfl rfl hT (by kernel_rfl) (by kernel_rfl) ?_
        refine hK0.out _ _ (K.out _ Tn) (fun hHeld => ?_)
        clear hK0 K0
        refine wpAnyH_done (by kernel_rfl) ?_ _
        go_wp2_with fail
        go_meet
        exact ⟨PI, c6, d6, rfl, VF, Hid.mk HF, Hid.mk RF, Hid.mk SF, Hid.mk CF⟩
    case rest =>
      clear K CU RR HH SS VTT
      obtain ⟨PI, c6, d6, rfl, VI, H6, R6, S6, C6⟩ := hcut
      obtain ⟨s_VI, f_VI, z_VI⟩ := VI.open
      by_cases hpc : Q.c = 0
      · have hpb : (Q.c == 0) = true := by simp [hpc]
        have e1 := HPL.out
        rw [if_pos hpc] at e1
        have E1 := Hid.mk e1
        have HPC := Hid.mk hpc
        clear e1 hpc
        go_wp2_with (go_at_call 43; refine (require_ok 5 _).mono ?_; rintro e wq ⟨rfl, rfl⟩)
        go_ret
        exact ⟨S6.out, .inr ⟨Q, (r.drop 2), by rw [rd1, if_pos (by decide), if_pos h2, hnn]; unfold rdP; rw [HQ.out, if_pos HPC.out], rfl, ⟨c6, d6, by rw [← E1.out]; exact H6.out, C6.out⟩, x2, (d - 1 - 2), by rw [List.length_drop, show r.length - 2 = m - 1 - 2 by omega]; exact R6.out⟩⟩
      · have hpb : (Q.c == 0) = false := by simp [hpc]
        have HPC := Hid.mk hpc
        clear hpc
        go_wp2_with (go_at_call 43; refine (require_no 5 _).mono ?_; rintro e wq ⟨rfl, rfl⟩)
        exact ⟨rfl, S6.out, .inl ⟨by rw [rd1, if_pos (by decide), if_pos h2, hnn]; unfold rdP; rw [HQ.out, if_neg HPC.out], rfl⟩⟩
  · skip
    go_enter Tryz.func42, Tryz.ntmps42
    go_wp2_with fail
    refine CN.out.mono ?_
    rintro e w1 ⟨rfl, S1, x1, R1⟩
    have H1 := H.sm S1 (fun k e => by subst e; exact fun h => HX.out _ h rfl)
    have S : Sm (fun k => k = P ∨ BkX pb g c k) w w1 := S1.more (fun k e => .inl e)
    have hs1 := S1.size
    have HC : Hid (∀ k, BkX pb g c k → k < w.heap.size → BkX pb g c k) := Hid.mk (fun k h _ => h)
    clear R H S1 CN
    have R := R1
    have H := H1
    clear R1 H1
    replace R := R.kept (belowA w1 (.cells #[.int .i64 1, .int .i64 0, .int .i64 0, .int .i64 0] 70))
    replace H := H.kept (belowA w1 (.cells #[.int .i64 1, .int .i64 0, .int .i64 0, .int .i64 0] 70))
    replace S := S.trans (Sm.below (belowA w1 (.cells #[.int .i64 1, .int .i64 0, .int .i64 0, .int .i64 0] 70)))
    have VT := V.new w1 [.int .i64 1, .int .i64 0, .int .i64 0, .int .i64 0] 70
    have hT1 : w.heap.size ≤ w1.heap.size := hs1
    have hTB : Hid (P < w1.heap.size ∧ ∀ k, BkX pb g c k → k < w1.heap.size) := Hid.mk ⟨by omega, fun k h => by have := (HLT.out k h).2; omega⟩
    obtain ⟨s_VT, f_VT, z_VT⟩ := VT.open
    clear s_VT f_VT z_VT
    have CN2 := number_no P (.pointer (some ⟨pb, 0, none⟩)) bx x1 (m - 1) (d - 1) r 2 _ R hbr (by omega)
    rw [show ((2 : Nat) : Int) = 2 from rfl] at CN2
    replace CN2 := Hid.mk CN2
    obtain ⟨s_VT, f_VT, z_VT⟩ := VT.open
    go_wp2_with fail
    refine CN2.out.mono ?_
    rintro e w2 ⟨rfl, b2⟩
    clear s_VT f_VT z_VT
    exact ⟨rfl, S.trans (Sm.below b2), .inl ⟨by rw [rd1, if_pos (by decide), if_neg (by omega)], rfl⟩⟩

set_option maxRecDepth 20000 in
set_option maxHeartbeats 16000000 in
theorem term_leaf2 (f base P pb g bx : Nat) (xs : List T4) (r : List Int) (x : Option Addr) (m d : Nat) (c : Option Addr) (dd : Nat) (w : World) (R : Rdr w P (.pointer (some ⟨pb, 0, none⟩)) bx x m d (2 :: r)) (hb : Bytes (2 :: r)) (H : Bk w base pb g c dd xs) (ht : tfC xs = 0) (hP : ∀ k, BkX pb g c k → k ≠ P) (hbP : base ≤ P) (hbx : bx < base) :
    Calls Tryz.prog 42 #[.pointer (some ⟨P, 0, none⟩)] w (TermRead (f + 1) xs (2 :: r) base P pb g bx c w) := by
  have q1 := build_tmo
  unfold TermRead
  have hx4 := (tfC_zero ht).1
  have hml := R.len
  simp only [List.length_cons] at hml
  have hbr := bytes_tail hb
  have hne : bx ≠ P := by omega
  have CN := number_ok P (.pointer (some ⟨pb, 0, none⟩)) bx x m d (2 :: r) 1 w R hb (by decide) (by decide) (by omega) hne
  rw [takeN_head, show ((1 : Nat) : Int) = 1 from rfl, List.drop_succ_cons, List.drop_zero] at CN
  replace CN := Hid.mk CN
  have hPl := R.v.1
  have HX := Hid.mk hP
  have HLT := Hid.mk H.lt
  have HT := Hid.mk ht
  by_cases h2 : 2 ≤ r.length
  · skip
    have hn0 := hbr.at 0
    have hn1 := hbr.at 1
    obtain ⟨nn, hnn⟩ : ∃ nn, r.getD 0 0 * 256 + r.getD 1 0 = nn := ⟨_, rfl⟩
    go_enter Tryz.func42, Tryz.ntmps42
    go_wp2_with fail
    refine CN.out.mono ?_
    rintro e w1 ⟨rfl, S1, x1, R1⟩
    have H1 := H.sm S1 (fun k e => by subst e; exact fun h => HX.out _ h rfl)
    have S : Sm (fun k => k = P ∨ BkX pb g c k) w w1 := S1.more (fun k e => .inl e)
    have hs1 := S1.size
    have HC : Hid (∀ k, BkX pb g c k → k < w.heap.size → BkX pb g c k) := Hid.mk (fun k h _ => h)
    clear R H S1 CN
    have R := R1
    have H := H1
    clear R1 H1
    replace R := R.kept (belowA w1 (.cells #[.int .i64 2, .int .i64 0, .int .i64 0, .int .i64 0] 70))
    replace H := H.kept (belowA w1 (.cells #[.int .i64 2, .int .i64 0, .int .i64 0, .int .i64 0] 70))
    replace S := S.trans (Sm.below (belowA w1 (.cells #[.int .i64 2, .int .i64 0, .int .i64 0, .int .i64 0] 70)))
    have VT := V.new w1 [.int .i64 2, .int .i64 0, .int .i64 0, .int .i64 0] 70
    have hT1 : w.heap.size ≤ w1.heap.size := hs1
    have hTB : Hid (P < w1.heap.size ∧ ∀ k, BkX pb g c k → k < w1.heap.size) := Hid.mk ⟨by omega, fun k h => by have := (HLT.out k h).2; omega⟩
    obtain ⟨s_VT, f_VT, z_VT⟩ := VT.open
    clear s_VT f_VT z_VT
    have CN2 := number_ok P (.pointer (some ⟨pb, 0, none⟩)) bx x1 (m - 1) (d - 1) r 2 _ R hbr (by decide) (by decide) (by omega) hne
    rw [takeN_pair, show ((2 : Nat) : Int) = 2 from rfl, hnn] at CN2
    replace CN2 := Hid.mk CN2
    obtain ⟨s_VT, f_VT, z_VT⟩ := VT.open
    go_wp2_with fail
    refine CN2.out.mono ?_
    rintro e w2 ⟨rfl, S2, x2, R2⟩
    clear s_VT f_VT z_VT
    have hs2 := S2.size
    simp only [World.size_alloc] at hs2
    have H2 := H.sm S2 (fun k e => by subst e; exact fun h => HX.out _ h rfl)
    have VT2 := VT.sm S2 (by have := hTB.out.1; omega)
    have Sn : Sm (fun k => k = P ∨ BkX pb g c k) w w2 := S.trans (S2.more (fun k e => .inl e))
    clear R H S S2 VT CN2
    have R := R2
    have H := H2
    have S := Sn
    have VT := VT2
    clear R2 H2 Sn VT2
    obtain ⟨s_VT, f_VT, z_VT⟩ := VT.open
    clear s_VT f_VT z_VT
    have VT2 := VT.set (i := 3) (by simp) (.int .i64 nn)
    simp only [List.set_cons_zero, List.set_cons_succ] at VT2
    have hPT : P < w1.heap.size := hTB.out.1
    have R2 : Rdr (w2.setCell ⟨w1.heap.size, 3, none⟩ (.int .i64 nn)) P (.pointer (some ⟨pb, 0, none⟩)) bx x2 (m - 1 - 2) (d - 1 - 2) (r.drop 2) := R.sm (X := fun k => k = w1.heap.size) (Sm.cell (X := fun k => k = w1.heap.size) rfl _) (by omega) (by omega)
    have H2 : Bk (w2.setCell ⟨w1.heap.size, 3, none⟩ (.int .i64 nn)) base pb g c dd xs := H.sm (X := fun k => k = w1.heap.size) (Sm.cell (X := fun k => k = w1.heap.size) rfl _) (fun k e h => by have := hTB.out.2 k h; omega)
    have S2 := S.newCell (p := ⟨w1.heap.size, 3, none⟩) (by simp only; omega) (.int .i64 nn)
    obtain ⟨s_VT, f_VT, z_VT⟩ := VT.open
    go_upto_region 14 with fail
    clear s_VT f_VT z_VT R H S VT
    have R := R2
    have H := H2
    have S := S2
    have VT := VT2
    clear R2 H2 S2 VT2
    generalize w2.setCell ⟨w1.heap.size, 3, none⟩ (.int .i64 nn) = w3 at *
    have CU := fun w h => put_ok base pb g c dd xs ⟨2, 0, 0, nn⟩ w h (okT_of (by decide) (by decide) (by decide) (by omega)) hx4
    simp only at CU
    obtain ⟨Q, hQ⟩ : ∃ Q, put xs ⟨2, 0, 0, nn⟩ = Q := ⟨_, rfl⟩
    have HQ := Hid.mk hQ
    have HPL : Hid (putL xs ⟨2, 0, 0, nn⟩ = if Q.c = 0 then Q.l else xs) := Hid.mk (by unfold putL; rw [hQ])
    rw [hQ] at CU
    replace CU := Hid.mk CU
    clear hQ
    have hPf : ¬ BkX pb g c P := fun h => HX.out P h rfl
    have hTf : ¬ BkX pb g c (w1.heap.size) := by intro e; exact absurd e (by exact fun e => by have := hTB.out.2 _ e; omega)
    have K : ∀ w' : World, Sm (BkX pb g c) w3 w' → (w'.cell? ⟨P, 1, none⟩ = some (.pointer (some ⟨pb, 0, none⟩)) ∧ w'.cell? ⟨w1.heap.size, 0, none⟩ = some (.int .i64 2) ∧ w'.cell? ⟨w1.heap.size, 1, none⟩ = some (.int .i64 0) ∧ w'.cell? ⟨w1.heap.size, 2, none⟩ = some (.int .i64 0) ∧ w'.cell? ⟨w1.heap.size, 3, none⟩ = some (.int .i64 nn)) := fun w' h => ⟨(R.v.sm h hPf).2.1 1 (by simp), (VT.sm h hTf).2.1 0 (by simp), (VT.sm h hTf).2.1 1 (by simp), (VT.sm h hTf).2.1 2 (by simp), (VT.sm h hTf).2.1 3 (by simp)⟩
    have K := Hid.mk K
    have RR := Hid.mk R
    have HH := Hid.mk H
    have SS := Hid.mk S
    have VTT := Hid.mk VT
    have hPz := R.v.1
    clear R H S VT
    go_cut [4] (fun p wx => ∃ (PI : Nat) (c6 : Option Addr) (d6 : Nat), p = .pointer (some ⟨PI, 0, none⟩) ∧ V wx PI [.int .i64 Q.c, .int .i64 Q.k] ∧ Hid (Bk wx base pb g c6 d6 (putL xs ⟨2, 0, 0, nn⟩)) ∧ Hid (Rdr wx P (.pointer (some ⟨pb, 0, none⟩)) bx x2 (m - 1 - 2) (d - 1 - 2) (r.drop 2)) ∧ Hid (Sm (fun k => k = P ∨ BkX pb g c k) w wx) ∧ Hid (∀ k, BkX pb g c6 k → k < w.heap.size → BkX pb g c k))
    case first =>
      refine wp_region_held_drew (S := (fun w' => w'.cell? ⟨P, 1, none⟩ = some (.pointer (some ⟨pb, 0, none⟩)) ∧ w'.cell? ⟨w1.heap.size, 0, none⟩ = some (.int .i64 2) ∧ w'.cell? ⟨w1.heap.size, 1, none⟩ = some (.int .i64 0) ∧ w'.cell? ⟨w1.heap.size, 2, none⟩ = some (.int .i64 0) ∧ w'.cell? ⟨w1.heap.size, 3, none⟩ = some (.int .i64 nn))) (by kernel_rfl) (K.out _ (Sm.below (Below.refl _ _).drew)) (fun hHeld => ?_)
      have bd : Sm (BkX pb g c) w3 w3.drew := Sm.below (Below.refl _ _).drew
      have HBd := Hid.mk (HH.out.kept (Below.refl _ _).drew)
      have hd0 := Hid.mk (show w3.drew.heap.size = w3.heap.size from rfl)
      generalize w3.drew = wd at *
      refine wpAnyH_take (i := 0) (oi := _) (v := ?vtma21) rfl (by kernel_rfl) (by kernel_rfl) (by kernel_rfl) (fun _ _ _ h => h) (Or.inl ⟨by kernel_rfl, ?hytma21⟩) hHeld ?resttma21
      case hytma21 => (intro w hSw; (try dsimp only at hSw); go_simp; first | done | with_reducible rfl)
      try simp only [Act.put, List.getElem_toArray, List.getElem_cons_zero, List.setIfInBounds_toArray, List.set_cons_zero, List.set_cons_succ]
      refine wpAnyH_take (i := 1) (oi := _) (v := ?vtma22) rfl (by kernel_rfl) (by kernel_rfl) (by kernel_rfl) (fun _ _ _ h => h) (Or.inl ⟨by kernel_rfl, ?hytma22⟩) hHeld ?resttma22
      case hytma22 => (intro w hSw; (try dsimp only at hSw); go_simp; first | done | with_reducible rfl)
      try simp only [Act.put, List.getElem_toArray, List.getElem_cons_zero, List.getElem_cons_succ, List.setIfInBounds_toArray, List.set_cons_zero, List.set_cons_succ]
      refine wpAnyH_take (i := 2) (oi := _) (v := ?vtma23) rfl (by kernel_rfl) (by kernel_rfl) (by kernel_rfl) (fun _ _ _ h => h) (Or.inl ⟨by kernel_rfl, ?hytma23⟩) hHeld ?resttma23
      case hytma23 => (intro w hSw; (try dsimp only at hSw); go_simp; first | done | with_reducible rfl)
      try simp only [Act.put, List.getElem_toArray, List.getElem_cons_zero, List.getElem_cons_succ, List.setIfInBounds_toArray, List.set_cons_zero, List.set_cons_succ]
      refine wpAnyH_take (i := 3) (oi := _) (v := ?vtma24) rfl (by kernel_rfl) (by kernel_rfl) (by kernel_rfl) (fun _ _ _ h => h) (Or.inl ⟨by kernel_rfl, ?hytma24⟩) hHeld ?resttma24
      case hytma24 => (intro w hSw; (try dsimp only at hSw); go_simp; first | done | with_reducible rfl)
      try simp only [Act.put, List.getElem_toArray, List.getElem_cons_zero, List.getElem_cons_succ, List.setIfInBounds_toArray, List.set_cons_zero, List.set_cons_succ]
      refine wpAnyH_take (i := 4) (oi := _) (v := ?vtma25) rfl (by kernel_rfl) (by kernel_rfl) (by kernel_rfl) (fun _ _ _ h => h) (Or.inl ⟨by kernel_rfl, ?hytma25⟩) hHeld ?resttma25
      case hytma25 => (intro w hSw; (try dsimp only at hSw); go_simp; first | done | with_reducible rfl)
      try simp only [Act.put, List.getElem_toArray, List.getElem_cons_zero, List.getElem_cons_succ, List.setIfInBounds_toArray, List.set_cons_zero, List.set_cons_succ]
      refine wpAnyH_ready (rs := [5, 6]) (by kernel_rfl) (by simp) ?_
      refine AllReadyH.cons (o := _) rfl (fun K0 hK0 => ?_) (AllReadyH.cons (o := _) rfl (fun K0 hK0 => ?_) AllReadyH.nil)
      · skip
        have HB := HBd.out
        go_simp
        go_at_call 68
        refine (CU.out _ HB).mono ?_
        rintro e w6 ⟨c6, d6, rfl, H6, S6, hc6⟩
        have T6 := bd.trans S6
        have hz6 := S6.size
        refine hK0.out _ _ (K.out _ T6) (fun hHeld => ?_)
        clear hK0 K0
        try simp only [Act.put, List.getElem_toArray, List.getElem_cons_zero, List.getElem_cons_succ, List.setIfInBounds_toArray, List.set_cons_zero, List.set_cons_succ]
        refine wpAnyH_ready (rs := [6]) (by kernel_rfl) (by simp) ?_
        refine AllReadyH.cons (o := _) rfl (fun K0 hK0 => ?_) AllReadyH.nil
        go_simp
        have b7 := belowA w6 (.cells #[.int .i64 0, .int .i64 0] 37)
        have T7 := T6.trans (Sm.below b7)
        have VN : V (w6.alloc (.cells #[.int .i64 0, .int .i64 0] 37)) w6.heap.size [.int .i64 0, .int .i64 0] := V.new _ _ _
        have H7 := H6.kept b7
        refine hK0.out _ _ (K.out _ T7) (fun hHeld => ?_)
        clear hK0 K0
        try simp only [Act.put, List.getElem_toArray, List.getElem_cons_zero, List.getElem_cons_succ, List.setIfInBounds_toArray, List.set_cons_zero, List.set_cons_succ]
        have hz7 : (w6.alloc (.cells #[.int .i64 0, .int .i64 0] 37)).heap.size = w6.heap.size + 1 := World.size_alloc _ _
        have hB6 : ∀ k, BkX pb g c6 k → k ≠ w6.heap.size := fun k h => by have := (H6.lt k h).2; omega
        obtain ⟨PI, hPI⟩ : ∃ PI, w6.heap.size = PI := ⟨_, rfl⟩
        have hPIw : w3.heap.size ≤ PI := by have := hd0.out; omega
        generalize w6.alloc (.cells #[.int .i64 0, .int .i64 0] 37) = wn at *
        rw [hPI] at VN hB6 ⊢
        refine wpAnyH_ready (rs := [7]) (by kernel_rfl) (by simp) ?_
        refine AllReadyH.cons (o := _) rfl (fun K0 hK0 => ?_) AllReadyH.nil
        rw [if_pos (by rfl)]
        have hT := VN.there
        have VF := VN.filled [.int .i64 Q.c, .int .i64 Q.k] rfl
        have HF := H7.apart (B := PI) hB6 0 [.int .i64 Q.c, .int .i64 Q.k]
        have Tn : Sm (BkX pb g c) w3 (World.setCells wn PI 0 [.int .i64 Q.c, .int .i64 Q.k]) := Sm.newCells T7 hPIw 0 _
        have RF := RR.out.sm Tn hPf (fun h => by have := (HH.out.lt _ h).1; omega)
        have SF := Sm.less SS.out.size Tn (fun k hk hx => .inr (HC.out k hx hk)) SS.out
        have CF : ∀ k, BkX pb g c6 k → k < w.heap.size → BkX pb g c k := fun k h hk => HC.out k (hc6 k h (by have := SS.out.size; have := hd0.out; omega)) hk
        refine wp_store_mid _ _ _ rfl PI 0 #[.int .i64 Q.c, .int .i64 Q.k] rfl rfl hT (by kernel_rfl) (by kernel_rfl) ?_
        refine hK0.out _ _ (K.out _ Tn) (fun hHeld => ?_)
        clear hK0 K0
        refine wpAnyH_done (by kernel_rfl) ?_ _
        go_wp2_with fail
        go_meet
        exact ⟨PI, c6, d6, rfl, VF, Hid.mk HF, Hid.mk RF, Hid.mk SF, Hid.mk CF⟩
      · skip
        go_simp
        have b7 := belowA wd (.cells #[.int .i64 0, .int .i64 0] 37)
        have T7 := bd.trans (Sm.below b7)
        have VN0 : V (wd.alloc (.cells #[.int .i64 0, .int .i64 0] 37)) wd.heap.size [.int .i64 0, .int .i64 0] := V.new _ _ _
        have HB := HBd.out.kept b7
        have hz7 : (wd.alloc (.cells #[.int .i64 0, .int .i64 0] 37)).heap.size = wd.heap.size + 1 := World.size_alloc _ _
        refine hK0.out _ _ (K.out _ T7) (fun hHeld => ?_)
        clear hK0 K0
        try simp only [Act.put, List.getElem_toArray, List.getElem_cons_zero, List.getElem_cons_succ, List.setIfInBounds_toArray, List.set_cons_zero, List.set_cons_succ]
        have hBd : ∀ k, BkX pb g c k → k ≠ wd.heap.size := fun k h => by have := (HBd.out.lt k h).2; omega
        obtain ⟨PI, hPI⟩ : ∃ PI, wd.heap.size = PI := ⟨_, rfl⟩
        have hPIw : w3.heap.size ≤ PI := by have := hd0.out; omega
        generalize wd.alloc (.cells #[.int .i64 0, .int .i64 0] 37) = wa at *
        rw [hPI] at VN0 hBd hz7 ⊢
        refine wpAnyH_ready (rs := [5]) (by kernel_rfl) (by simp) ?_
        refine AllReadyH.cons (o := _) rfl (fun K0 hK0 => ?_) AllReadyH.nil
        go_simp
        go_at_call 68
        refine (CU.out _ HB).mono ?_
        rintro e w6 ⟨c6, d6, rfl, H6, S6, hc6⟩
        have T6 := T7.trans S6
        have hz6 := S6.size
        refine hK0.out _ _ (K.out _ T6) (fun hHeld => ?_)
        clear hK0 K0
        try simp only [Act.put, List.getElem_toArray, List.getElem_cons_zero, List.getElem_cons_succ, List.setIfInBounds_toArray, List.set_cons_zero, List.set_cons_succ]
        have VN := VN0.sm S6 (fun h => hBd _ h rfl)
        have hB6 : ∀ k, BkX pb g c6 k → k ≠ PI := fun k h e => hBd k (hc6 k h (by omega)) e
        have hc6' : ∀ k, BkX pb g c6 k → k < wd.heap.size → BkX pb g c k := fun k h hk => hc6 k h (by omega)
        clear hc6
        have hc6 := hc6'
        clear hc6'
        generalize w6 = wn at *
        refine wpAnyH_ready (rs := [7]) (by kernel_rfl) (by simp) ?_
        refine AllReadyH.cons (o := _) rfl (fun K0 hK0 => ?_) AllReadyH.nil
        rw [if_pos (by rfl)]
        have hT := VN.there
        have VF := VN.filled [.int .i64 Q.c, .int .i64 Q.k] rfl
        have HF := H6.apart (B := PI) hB6 0 [.int .i64 Q.c, .int .i64 Q.k]
        have Tn : Sm (BkX pb g c) w3 (World.setCells wn PI 0 [.int .i64 Q.c, .int .i64 Q.k]) := Sm.newCells T6 hPIw 0 _
        have RF := RR.out.sm Tn hPf (fun h => by have := (HH.out.lt _ h).1; omega)
        have SF := Sm.less SS.out.size Tn (fun k hk hx => .inr (HC.out k hx hk)) SS.out
        have CF : ∀ k, BkX pb g c6 k → k < w.heap.size → BkX pb g c k := fun k h hk => HC.out k (hc6 k h (by have := SS.out.size; have := hd0.out; omega)) hk
        refine wp_store_mid _ _ _ rfl PI 0 #[.int .i64 Q.c, .int .i64 Q.k] rfl rfl hT (by kernel_rfl) (by kernel_rfl) ?_
        refine hK0.out _ _ (K.out _ Tn) (fun hHeld => ?_)
        clear hK0 K0
        refine wpAnyH_done (by kernel_rfl) ?_ _
        go_wp2_with fail
        go_meet
        exact ⟨PI, c6, d6, rfl, VF, Hid.mk HF, Hid.mk RF, Hid.mk SF, Hid.mk CF⟩
    case rest =>
      clear K CU RR HH SS VTT
      obtain ⟨PI, c6, d6, rfl, VI, H6, R6, S6, C6⟩ := hcut
      obtain ⟨s_VI, f_VI, z_VI⟩ := VI.open
      by_cases hpc : Q.c = 0
      · have hpb : (Q.c == 0) = true := by simp [hpc]
        have e1 := HPL.out
        rw [if_pos hpc] at e1
        have E1 := Hid.mk e1
        have HPC := Hid.mk hpc
        clear e1 hpc
        go_wp2_with (go_at_call 43; refine (require_ok 5 _).mono ?_; rintro e wq ⟨rfl, rfl⟩)
        go_ret
        exact ⟨S6.out, .inr ⟨Q, (r.drop 2), by rw [rd1, if_pos (by decide), if_pos h2, hnn]; unfold rdP; rw [HQ.out, if_pos HPC.out], rfl, ⟨c6, d6, by rw [← E1.out]; exact H6.out, C6.out⟩, x2, (d - 1 - 2), by rw [List.length_drop, show r.length - 2 = m - 1 - 2 by omega]; exact R6.out⟩⟩
      · have hpb : (Q.c == 0) = false := by simp [hpc]
        have HPC := Hid.mk hpc
        clear hpc
        go_wp2_with (go_at_call 43; refine (require_no 5 _).mono ?_; rintro e wq ⟨rfl, rfl⟩)
        exact ⟨rfl, S6.out, .inl ⟨by rw [rd1, if_pos (by decide), if_pos h2, hnn]; unfold rdP; rw [HQ.out, if_neg HPC.out], rfl⟩⟩
  · skip
    go_enter Tryz.func42, Tryz.ntmps42
    go_wp2_with fail
    refine CN.out.mono ?_
    rintro e w1 ⟨rfl, S1, x1, R1⟩
    have H1 := H.sm S1 (fun k e => by subst e; exact fun h => HX.out _ h rfl)
    have S : Sm (fun k => k = P ∨ BkX pb g c k) w w1 := S1.more (fun k e => .inl e)
    have hs1 := S1.size
    have HC : Hid (∀ k, BkX pb g c k → k < w.heap.size → BkX pb g c k) := Hid.mk (fun k h _ => h)
    clear R H S1 CN
    have R := R1
    have H := H1
    clear R1 H1
    replace R := R.kept (belowA w1 (.cells #[.int .i64 2, .int .i64 0, .int .i64 0, .int .i64 0] 70))
    replace H := H.kept (belowA w1 (.cells #[.int .i64 2, .int .i64 0, .int .i64 0, .int .i64 0] 70))
    replace S := S.trans (Sm.below (belowA w1 (.cells #[.int .i64 2, .int .i64 0, .int .i64 0, .int .i64 0] 70)))
    have VT := V.new w1 [.int .i64 2, .int .i64 0, .int .i64 0, .int .i64 0] 70
    have hT1 : w.heap.size ≤ w1.heap.size := hs1
    have hTB : Hid (P < w1.heap.size ∧ ∀ k, BkX pb g c k → k < w1.heap.size) := Hid.mk ⟨by omega, fun k h => by have := (HLT.out k h).2; omega⟩
    obtain ⟨s_VT, f_VT, z_VT⟩ := VT.open
    clear s_VT f_VT z_VT
    have CN2 := number_no P (.pointer (some ⟨pb, 0, none⟩)) bx x1 (m - 1) (d - 1) r 2 _ R hbr (by omega)
    rw [show ((2 : Nat) : Int) = 2 from rfl] at CN2
    replace CN2 := Hid.mk CN2
    obtain ⟨s_VT, f_VT, z_VT⟩ := VT.open
    go_wp2_with fail
    refine CN2.out.mono ?_
    rintro e w2 ⟨rfl, b2⟩
    clear s_VT f_VT z_VT
    exact ⟨rfl, S.trans (Sm.below b2), .inl ⟨by rw [rd1, if_pos (by decide), if_neg (by omega)], rfl⟩⟩

end Go.Proofs.YtfldgeokigcokaaGreat
