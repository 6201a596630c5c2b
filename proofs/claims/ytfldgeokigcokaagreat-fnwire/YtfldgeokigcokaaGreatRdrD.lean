/- The reader's 'term': what has two parts. -/
import Derived.Test.YtfldgeokigcokaaGreatRdrB
namespace Go.Proofs.YtfldgeokigcokaaGreat
open Go.RowKit

set_option maxRecDepth 20000 in
set_option maxHeartbeats 16000000 in
theorem term_two3 (f base P pb g bx : Nat) (xs : List T4) (r : List Int) (x : Option Addr) (m d : Nat) (c : Option Addr) (dd : Nat) (w : World) (ih : TermOk f base P pb g bx) (hl : (3 :: r).length ≤ f + 1) (R : Rdr w P (.pointer (some ⟨pb, 0, none⟩)) bx x m d (3 :: r)) (hb : Bytes (3 :: r)) (H : Bk w base pb g c dd xs) (ht : tfC xs = 0) (hP : ∀ k, BkX pb g c k → k ≠ P) (hbP : base ≤ P) (hbx : bx < base) :
    Calls Tryz.prog 42 #[.pointer (some ⟨P, 0, none⟩)] w (TermRead (f + 1) xs (3 :: r) base P pb g bx c w) := by
  have q1 := build_tmo
  unfold TermRead
  have hx4 := (tfC_zero ht).1
  have hml := R.len
  simp only [List.length_cons] at hml
  have hbr := bytes_tail hb
  have hne : bx ≠ P := by omega
  have CN := number_ok P (.pointer (some ⟨pb, 0, none⟩)) bx x m d (3 :: r) 1 w R hb (by decide) (by decide) (by omega) hne
  rw [takeN_head, show ((1 : Nat) : Int) = 1 from rfl, List.drop_succ_cons, List.drop_zero] at CN
  replace CN := Hid.mk CN
  have hPl := R.v.1
  have HX := Hid.mk hP
  have HLT := Hid.mk H.lt
  have HT := Hid.mk ht
  simp only [List.length_cons] at hl
  have hl' : r.length ≤ f := by omega
  go_enter Tryz.func42, Tryz.ntmps42
  go_wp2_with fail
  refine CN.out.mono ?_
  rintro e w1 ⟨rfl, S1, x1, R1⟩
  have H1 := H.sm S1 (fun k e => by subst e; exact fun h => HX.out _ h rfl)
  have S : Sm (fun k => k = P ∨ BkX pb g c k) w w1 := S1.more (fun k e => .inl e)
  have hs1 := S1.size
  have HC : Hid (∀ k, BkX pb g c k → k < w.heap.size → BkX pb g c k) := Hid.mk (fun k h _ => h)
  clear R H S1 CN
  have R := R1
  have H := H1
  clear R1 H1
  replace R := R.kept (belowA w1 (.cells #[.int .i64 3, .int .i64 0, .int .i64 0, .int .i64 0] 70))
  replace H := H.kept (belowA w1 (.cells #[.int .i64 3, .int .i64 0, .int .i64 0, .int .i64 0] 70))
  replace S := S.trans (Sm.below (belowA w1 (.cells #[.int .i64 3, .int .i64 0, .int .i64 0, .int .i64 0] 70)))
  have VT := V.new w1 [.int .i64 3, .int .i64 0, .int .i64 0, .int .i64 0] 70
  have hT1 : w.heap.size ≤ w1.heap.size := hs1
  have hTB : Hid (P < w1.heap.size ∧ ∀ k, BkX pb g c k → k < w1.heap.size) := Hid.mk ⟨by omega, fun k h => by have := (HLT.out k h).2; omega⟩
  obtain ⟨s_VT, f_VT, z_VT⟩ := VT.open
  clear s_VT f_VT z_VT
  have CT := Hid.mk (ih xs r x1 (m - 1) (d - 1) c dd _ (by omega) R hbr H HT.out HX.out hbP hbx)
  unfold TermRead at CT
  obtain ⟨s_VT, f_VT, z_VT⟩ := VT.open
  go_wp2_with fail
  refine CT.out.mono ?_
  rintro e wt1 ⟨SA1, ⟨hnA1, rfl⟩ | ⟨A1, rA1, hA1, rfl, ⟨cA1, dA1, HA1, hcA1⟩, xA1, eA1, RA1⟩⟩
  clear s_VT f_VT z_VT
  · exact ⟨rfl, Sm.less S.size SA1 (fun k hk hx => by rcases hx with e | e; exact .inl e; exact .inr (HC.out k e hk)) S, .inl ⟨by rw [rd1, if_neg (by decide), if_neg (by decide), if_pos (by decide), hnA1], rfl⟩⟩
  have hsA1 := SA1.size
  simp only [World.size_alloc] at hsA1
  have VT2 := VT.sm SA1 (by rintro (e | e); have := hTB.out.1; omega; exact absurd e (by exact fun e => by have := hTB.out.2 _ e; omega))
  have Sn : Sm (fun k => k = P ∨ BkX pb g c k) w wt1 := Sm.less S.size SA1 (fun k hk hx => by rcases hx with e | e; exact .inl e; exact .inr (HC.out k e hk)) S
  have GA1 := rd1_ok f _ _ _ HT.out hA1
  have gkA1 : 0 ≤ A1.k ∧ A1.k < A1.l.length := ⟨GA1.k0, GA1.k1⟩
  have g4A1 : A1.l.length ≤ 400 := (tfC_zero GA1.right).1
  have gbA1 : Bytes rA1 ∧ rA1.length ≤ r.length := by
    obtain ⟨nn, _, n1, n2⟩ := GA1.rest
    simp only at n2
    rw [n2]
    exact ⟨bytes_dropN hbr nn, by rw [List.length_drop]; omega⟩
  have hcnA1 : Hid (∀ k, BkX pb g cA1 k → k < w.heap.size → BkX pb g c k) := Hid.mk (fun k h hk => HC.out k (hcA1 k h (Nat.lt_of_lt_of_le hk S.size)) hk)
  have hfarA1 : Hid (∀ k, BkX pb g cA1 k → k ≠ P ∧ k ≠ w1.heap.size) := Hid.mk (fun k h => by
    rcases Nat.lt_or_ge k w1.heap.size with h1 | h1
    · rcases Nat.lt_or_ge k w.heap.size with h2 | h2
      · exact ⟨HX.out k (hcnA1.out k h h2), by omega⟩
      · exact ⟨by omega, by omega⟩
    · refine ⟨by omega, fun e => ?_⟩
      have h2 := hcA1 k h (by have := VT.1; omega)
      have := hTB.out.2 _ h2; omega)
  clear CT SA1 VT S R H hcA1
  have R := RA1
  have H := HA1
  have S := Sn
  have VT := VT2
  clear RA1 HA1 Sn VT2
  obtain ⟨s_VT, f_VT, z_VT⟩ := VT.open
  clear s_VT f_VT z_VT
  have CT := Hid.mk (ih A1.l rA1 xA1 rA1.length eA1 cA1 dA1 _ (by have := gbA1.2; omega) R gbA1.1 H GA1.right (fun k h => (hfarA1.out k h).1) hbP hbx)
  unfold TermRead at CT
  obtain ⟨s_VT, f_VT, z_VT⟩ := VT.open
  go_wp2_with fail
  refine CT.out.mono ?_
  rintro e wt2 ⟨SA2, ⟨hnA2, rfl⟩ | ⟨A2, rA2, hA2, rfl, ⟨cA2, dA2, HA2, hcA2⟩, xA2, eA2, RA2⟩⟩
  clear s_VT f_VT z_VT
  · exact ⟨rfl, Sm.less S.size SA2 (fun k hk hx => by rcases hx with e | e; exact .inl e; exact .inr (hcnA1.out k e hk)) S, .inl ⟨by rw [rd1, if_neg (by decide), if_neg (by decide), if_pos (by decide), hA1]; dsimp only; rw [hnA2], rfl⟩⟩
  have hsA2 := SA2.size
  have VT2 := VT.sm SA2 (by rintro (e | e); have := hTB.out.1; omega; exact absurd e (by exact fun e => (hfarA1.out _ e).2 rfl))
  have Sn : Sm (fun k => k = P ∨ BkX pb g c k) w wt2 := Sm.less S.size SA2 (fun k hk hx => by rcases hx with e | e; exact .inl e; exact .inr (hcnA1.out k e hk)) S
  have GA2 := rd1_ok f _ _ _ GA1.right hA2
  have gkA2 : 0 ≤ A2.k ∧ A2.k < A2.l.length := ⟨GA2.k0, GA2.k1⟩
  have g4A2 : A2.l.length ≤ 400 := (tfC_zero GA2.right).1
  have gbA2 : Bytes rA2 ∧ rA2.length ≤ rA1.length := by
    obtain ⟨nn, _, n1, n2⟩ := GA2.rest
    simp only at n2
    rw [n2]
    exact ⟨bytes_dropN gbA1.1 nn, by rw [List.length_drop]; omega⟩
  have hcnA2 : Hid (∀ k, BkX pb g cA2 k → k < w.heap.size → BkX pb g c k) := Hid.mk (fun k h hk => hcnA1.out k (hcA2 k h (Nat.lt_of_lt_of_le hk S.size)) hk)
  have hfarA2 : Hid (∀ k, BkX pb g cA2 k → k ≠ P ∧ k ≠ w1.heap.size) := Hid.mk (fun k h => by
    rcases Nat.lt_or_ge k w1.heap.size with h1 | h1
    · rcases Nat.lt_or_ge k w.heap.size with h2 | h2
      · exact ⟨HX.out k (hcnA2.out k h h2), by omega⟩
      · exact ⟨by omega, by omega⟩
    · refine ⟨by omega, fun e => ?_⟩
      have h2 := hcA2 k h (by have := VT.1; omega)
      exact absurd e (hfarA1.out k h2).2)
  clear CT SA2 VT S R H hcA2
  have R := RA2
  have H := HA2
  have S := Sn
  have VT := VT2
  clear RA2 HA2 Sn VT2
  obtain ⟨s_VT, f_VT, z_VT⟩ := VT.open
  clear s_VT f_VT z_VT
  have VT0 := VT
  have hPT : P < w1.heap.size := hTB.out.1
  replace VT := VT.set (i := 1) (by simp) (.int .i64 A1.k)
  simp only [List.set_cons_zero, List.set_cons_succ] at VT
  replace R := R.sm (X := fun k => k = w1.heap.size) (Sm.cell (X := fun k => k = w1.heap.size) (p := ⟨w1.heap.size, 1, none⟩) rfl (.int .i64 A1.k)) (by omega) (by omega)
  replace H := H.sm (X := fun k => k = w1.heap.size) (Sm.cell (X := fun k => k = w1.heap.size) (p := ⟨w1.heap.size, 1, none⟩) rfl (.int .i64 A1.k)) (fun k e h => by rw [e] at h; exact absurd h (by exact fun e => (hfarA2.out _ e).2 rfl))
  replace S := S.newCell (p := ⟨w1.heap.size, 1, none⟩) (by simp only; omega) (.int .i64 A1.k)
  replace VT := VT.set (i := 2) (by simp) (.int .i64 A2.k)
  simp only [List.set_cons_zero, List.set_cons_succ] at VT
  replace R := R.sm (X := fun k => k = w1.heap.size) (Sm.cell (X := fun k => k = w1.heap.size) (p := ⟨w1.heap.size, 2, none⟩) rfl (.int .i64 A2.k)) (by omega) (by omega)
  replace H := H.sm (X := fun k => k = w1.heap.size) (Sm.cell (X := fun k => k = w1.heap.size) (p := ⟨w1.heap.size, 2, none⟩) rfl (.int .i64 A2.k)) (fun k e h => by rw [e] at h; exact absurd h (by exact fun e => (hfarA2.out _ e).2 rfl))
  replace S := S.newCell (p := ⟨w1.heap.size, 2, none⟩) (by simp only; omega) (.int .i64 A2.k)
  obtain ⟨s_VT, f_VT, z_VT⟩ := VT0.open
  go_upto_region 14 with fail
  clear s_VT f_VT z_VT VT0
  generalize (World.setCell (World.setCell wt2 ⟨w1.heap.size, 1, none⟩ (.int .i64 A1.k)) ⟨w1.heap.size, 2, none⟩ (.int .i64 A2.k)) = w3 at *
  have CU := fun w h => put_ok base pb g cA2 dA2 A2.l ⟨3, A1.k, A2.k, 0⟩ w h (okT_of (by decide) (by omega) (by omega) (by decide)) g4A2
  simp only at CU
  obtain ⟨Q, hQ⟩ : ∃ Q, put A2.l ⟨3, A1.k, A2.k, 0⟩ = Q := ⟨_, rfl⟩
  have HQ := Hid.mk hQ
  have HPL : Hid (putL A2.l ⟨3, A1.k, A2.k, 0⟩ = if Q.c = 0 then Q.l else A2.l) := Hid.mk (by unfold putL; rw [hQ])
  rw [hQ] at CU
  replace CU := Hid.mk CU
  clear hQ
  have hPf : ¬ BkX pb g cA2 P := fun h => (fun k h => (hfarA2.out k h).1) P h rfl
  have hTf : ¬ BkX pb g cA2 (w1.heap.size) := by intro e; exact absurd e (by exact fun e => (hfarA2.out _ e).2 rfl)
  have K : ∀ w' : World, Sm (BkX pb g cA2) w3 w' → (w'.cell? ⟨P, 1, none⟩ = some (.pointer (some ⟨pb, 0, none⟩)) ∧ w'.cell? ⟨w1.heap.size, 0, none⟩ = some (.int .i64 3) ∧ w'.cell? ⟨w1.heap.size, 1, none⟩ = some (.int .i64 A1.k) ∧ w'.cell? ⟨w1.heap.size, 2, none⟩ = some (.int .i64 A2.k) ∧ w'.cell? ⟨w1.heap.size, 3, none⟩ = some (.int .i64 0)) := fun w' h => ⟨(R.v.sm h hPf).2.1 1 (by simp), (VT.sm h hTf).2.1 0 (by simp), (VT.sm h hTf).2.1 1 (by simp), (VT.sm h hTf).2.1 2 (by simp), (VT.sm h hTf).2.1 3 (by simp)⟩
  have K := Hid.mk K
  have RR := Hid.mk R
  have HH := Hid.mk H
  have SS := Hid.mk S
  have VTT := Hid.mk VT
  have hPz := R.v.1
  clear R H S VT
  go_cut [4] (fun p wx => ∃ (PI : Nat) (c6 : Option Addr) (d6 : Nat), p = .pointer (some ⟨PI, 0, none⟩) ∧ V wx PI [.int .i64 Q.c, .int .i64 Q.k] ∧ Hid (Bk wx base pb g c6 d6 (putL A2.l ⟨3, A1.k, A2.k, 0⟩)) ∧ Hid (Rdr wx P (.pointer (some ⟨pb, 0, none⟩)) bx xA2 rA2.length eA2 rA2) ∧ Hid (Sm (fun k => k = P ∨ BkX pb g c k) w wx) ∧ Hid (∀ k, BkX pb g c6 k → k < w.heap.size → BkX pb g c k))
  case first =>
    refine wp_region_held_drew (S := (fun w' => w'.cell? ⟨P, 1, none⟩ = some (.pointer (some ⟨pb, 0, none⟩)) ∧ w'.cell? ⟨w1.heap.size, 0, none⟩ = some (.int .i64 3) ∧ w'.cell? ⟨w1.heap.size, 1, none⟩ = some (.int .i64 A1.k) ∧ w'.cell? ⟨w1.heap.size, 2, none⟩ = some (.int .i64 A2.k) ∧ w'.cell? ⟨w1.heap.size, 3, none⟩ = some (.int .i64 0))) (by kernel_rfl) (K.out _ (Sm.below (Below.refl _ _).drew)) (fun hHeld => ?_)
    have bd : Sm (BkX pb g cA2) w3 w3.drew := Sm.below (Below.refl _ _).drew
    have HBd := Hid.mk (HH.out.kept (Below.refl _ _).drew)
    have hd0 := Hid.mk (show w3.drew.heap.size = w3.heap.size from rfl)
    generalize w3.drew = wd at *
    refine wpAnyH_take (i := 0) (oi := _) (v := ?vtmt31) rfl (by kernel_rfl) (by kernel_rfl) (by kernel_rfl) (fun _ _ _ h => h) (Or.inl ⟨by kernel_rfl, ?hytmt31⟩) hHeld ?resttmt31
    case hytmt31 => (intro w hSw; (try dsimp only at hSw); go_simp; first | done | with_reducible rfl)
    try simp only [Act.put, List.getElem_toArray, List.getElem_cons_zero, List.setIfInBounds_toArray, List.set_cons_zero, List.set_cons_succ]
    refine wpAnyH_take (i := 1) (oi := _) (v := ?vtmt32) rfl (by kernel_rfl) (by kernel_rfl) (by kernel_rfl) (fun _ _ _ h => h) (Or.inl ⟨by kernel_rfl, ?hytmt32⟩) hHeld ?resttmt32
    case hytmt32 => (intro w hSw; (try dsimp only at hSw); go_simp; first | done | with_reducible rfl)
    try simp only [Act.put, List.getElem_toArray, List.getElem_cons_zero, List.getElem_cons_succ, List.setIfInBounds_toArray, List.set_cons_zero, List.set_cons_succ]
    refine wpAnyH_take (i := 2) (oi := _) (v := ?vtmt33) rfl (by kernel_rfl) (by kernel_rfl) (by kernel_rfl) (fun _ _ _ h => h) (Or.inl ⟨by kernel_rfl, ?hytmt33⟩) hHeld ?resttmt33
    case hytmt33 => (intro w hSw; (try dsimp only at hSw); go_simp; first | done | with_reducible rfl)
    try simp only [Act.put, List.getElem_toArray, List.getElem_cons_zero, List.getElem_cons_succ, List.setIfInBounds_toArray, List.set_cons_zero, List.set_cons_succ]
    refine wpAnyH_take (i := 3) (oi := _) (v := ?vtmt34) rfl (by kernel_rfl) (by kernel_rfl) (by kernel_rfl) (fun _ _ _ h => h) (Or.inl ⟨by kernel_rfl, ?hytmt34⟩) hHeld ?resttmt34
    case hytmt34 => (intro w hSw; (try dsimp only at hSw); go_simp; first | done | with_reducible rfl)
    try simp only [Act.put, List.getElem_toArray, List.getElem_cons_zero, List.getElem_cons_succ, List.setIfInBounds_toArray, List.set_cons_zero, List.set_cons_succ]
    refine wpAnyH_take (i := 4) (oi := _) (v := ?vtmt35) rfl (by kernel_rfl) (by kernel_rfl) (by kernel_rfl) (fun _ _ _ h => h) (Or.inl ⟨by kernel_rfl, ?hytmt35⟩) hHeld ?resttmt35
    case hytmt35 => (intro w hSw; (try dsimp only at hSw); go_simp; first | done | with_reducible rfl)
    try simp only [Act.put, List.getElem_toArray, List.getElem_cons_zero, List.getElem_cons_succ, List.setIfInBounds_toArray, List.set_cons_zero, List.set_cons_succ]
    refine wpAnyH_ready (rs := [5, 6]) (by kernel_rfl) (by simp) ?_
    refine AllReadyH.cons (o := _) rfl (fun K0 hK0 => ?_) (AllReadyH.cons (o := _) rfl (fun K0 hK0 => ?_) AllReadyH.nil)
    · skip
      have HB := HBd.out
      go_simp
      go_at_call 68
      refine (CU.out _ HB).mono ?_
      rintro e w6 ⟨c6, d6, rfl, H6, S6, hc6⟩
      have T6 := bd.trans S6
      have hz6 := S6.size
      refine hK0.out _ _ (K.out _ T6) (fun hHeld => ?_)
      clear hK0 K0
      try simp only [Act.put, List.getElem_toArray, List.getElem_cons_zero, List.getElem_cons_succ, List.setIfInBounds_toArray, List.set_cons_zero, List.set_cons_succ]
      refine wpAnyH_ready (rs := [6]) (by kernel_rfl) (by simp) ?_
      refine AllReadyH.cons (o := _) rfl (fun K0 hK0 => ?_) AllReadyH.nil
      go_simp
      have b7 := belowA w6 (.cells #[.int .i64 0, .int .i64 0] 37)
      have T7 := T6.trans (Sm.below b7)
      have VN : V (w6.alloc (.cells #[.int .i64 0, .int .i64 0] 37)) w6.heap.size [.int .i64 0, .int .i64 0] := V.new _ _ _
      have H7 := H6.kept b7
      refine hK0.out _ _ (K.out _ T7) (fun hHeld => ?_)
      clear hK0 K0
      try simp only [Act.put, List.getElem_toArray, List.getElem_cons_zero, List.getElem_cons_succ, List.setIfInBounds_toArray, List.set_cons_zero, List.set_cons_succ]
      have hz7 : (w6.alloc (.cells #[.int .i64 0, .int .i64 0] 37)).heap.size = w6.heap.size + 1 := World.size_alloc _ _
      have hB6 : ∀ k, BkX pb g c6 k → k ≠ w6.heap.size := fun k h => by have := (H6.lt k h).2; omega
      obtain ⟨PI, hPI⟩ : ∃ PI, w6.heap.size = PI := ⟨_, rfl⟩
      have hPIw : w3.heap.size ≤ PI := by have := hd0.out; omega
      generalize w6.alloc (.cells #[.int .i64 0, .int .i64 0] 37) = wn at *
      rw [hPI] at VN hB6 ⊢
      refine wpAnyH_ready (rs := [7]) (by kernel_rfl) (by simp) ?_
      refine AllReadyH.cons (o := _) rfl (fun K0 hK0 => ?_) AllReadyH.nil
      rw [if_pos (by rfl)]
      have hT := VN.there
      have VF := VN.filled [.int .i64 Q.c, .int .i64 Q.k] rfl
      have HF := H7.apart (B := PI) hB6 0 [.int .i64 Q.c, .int .i64 Q.k]
      have Tn : Sm (BkX pb g cA2) w3 (World.setCells wn PI 0 [.int .i64 Q.c, .int .i64 Q.k]) := Sm.newCells T7 hPIw 0 _
      have RF := RR.out.sm Tn hPf (fun h => by have := (HH.out.lt _ h).1; omega)
      have SF := Sm.less SS.out.size Tn (fun k hk hx => .inr (hcnA2.out k hx hk)) SS.out
      have CF : ∀ k, BkX pb g c6 k → k < w.heap.size → BkX pb g c k := fun k h hk => hcnA2.out k (hc6 k h (by have := SS.out.size; have := hd0.out; omega)) hk
      refine wp_store_mid _ _ _ rfl PI 0 #[.int .i64 Q.c, .int .i64 Q.k] rfl rfl hT (by kernel_rfl) (by kernel_rfl) ?_
      refine hK0.out _ _ (K.out _ Tn) (fun hHeld => ?_)
      clear hK0 K0
      refine wpAnyH_done (by kernel_rfl) ?_ _
      go_wp2_with fail
      go_meet
      exact ⟨PI, c6, d6, rfl, VF, Hid.mk HF, Hid.mk RF, Hid.mk SF, Hid.mk CF⟩
    · skip
      go_simp
      have b7 := belowA wd (.cells #[.int .i64 0, .int .i64 0] 37)
      have T7 := bd.trans (Sm.below b7)
      have VN0 : V (wd.alloc (.cells #[.int .i64 0, .int .i64 0] 37)) wd.heap.size [.int .i64 0, .int .i64 0] := V.new _ _ _
      have HB := HBd.out.kept b7
      have hz7 : (wd.alloc (.cells #[.int .i64 0, .int .i64 0] 37)).heap.size = wd.heap.size + 1 := World.size_alloc _ _
      refine hK0.out _ _ (K.out _ T7) (fun hHeld => ?_)
      clear hK0 K0
      try simp only [Act.put, List.getElem_toArray, List.getElem_cons_zero, List.getElem_cons_succ, List.setIfInBounds_toArray, List.set_cons_zero, List.set_cons_succ]
      have hBd : ∀ k, BkX pb g cA2 k → k ≠ wd.heap.size := fun k h => by have := (HBd.out.lt k h).2; omega
      obtain ⟨PI, hPI⟩ : ∃ PI, wd.heap.size = PI := ⟨_, rfl⟩
      have hPIw : w3.heap.size ≤ PI := by have := hd0.out; omega
      generalize wd.alloc (.cells #[.int .i64 0, .int .i64 0] 37) = wa at *
      rw [hPI] at VN0 hBd hz7 ⊢
      refine wpAnyH_ready (rs := [5]) (by kernel_rfl) (by simp) ?_
      refine AllReadyH.cons (o := _) rfl (fun K0 hK0 => ?_) AllReadyH.nil
      go_simp
      go_at_call 68
      refine (CU.out _ HB).mono ?_
      rintro e w6 ⟨c6, d6, rfl, H6, S6, hc6⟩
      have T6 := T7.trans S6
      have hz6 := S6.size
      refine hK0.out _ _ (K.out _ T6) (fun hHeld => ?_)
      clear hK0 K0
      try simp only [Act.put, List.getElem_toArray, List.getElem_cons_zero, List.getElem_cons_succ, List.setIfInBounds_toArray, List.set_cons_zero, List.set_cons_succ]
      have VN := VN0.sm S6 (fun h => hBd _ h rfl)
      have hB6 : ∀ k, BkX pb g c6 k → k ≠ PI := fun k h e => hBd k (hc6 k h (by omega)) e
      have hc6' : ∀ k, BkX pb g c6 k → k < wd.heap.size → BkX pb g cA2 k := fun k h hk => hc6 k h (by omega)
      clear hc6
      have hc6 := hc6'
      clear hc6'
      generalize w6 = wn at *
      refine wpAnyH_ready (rs := [7]) (by kernel_rfl) (by simp) ?_
      refine AllReadyH.cons (o := _) rfl (fun K0 hK0 => ?_) AllReadyH.nil
      rw [if_pos (by rfl)]
      have hT := VN.there
      have VF := VN.filled [.int .i64 Q.c, .int .i64 Q.k] rfl
      have HF := H6.apart (B := PI) hB6 0 [.int .i64 Q.c, .int .i64 Q.k]
      have Tn : Sm (BkX pb g cA2) w3 (World.setCells wn PI 0 [.int .i64 Q.c, .int .i64 Q.k]) := Sm.newCells T6 hPIw 0 _
      have RF := RR.out.sm Tn hPf (fun h => by have := (HH.out.lt _ h).1; omega)
      have SF := Sm.less SS.out.size Tn (fun k hk hx => .inr (hcnA2.out k hx hk)) SS.out
      have CF : ∀ k, BkX pb g c6 k → k < w.heap.size → BkX pb g c k := fun k h hk => hcnA2.out k (hc6 k h (by have := SS.out.size; have := hd0.out; omega)) hk
      refine wp_store_mid _ _ _ rfl PI 0 #[.int .i64 Q.c, .int .i64 Q.k] rfl rfl hT (by kernel_rfl) (by kernel_rfl) ?_
      refine hK0.out _ _ (K.out _ Tn) (fun hHeld => ?_)
      clear hK0 K0
      refine wpAnyH_done (by kernel_rfl) ?_ _
      go_wp2_with fail
      go_meet
      exact ⟨PI, c6, d6, rfl, VF, Hid.mk HF, Hid.mk RF, Hid.mk SF, Hid.mk CF⟩
  case rest =>
    clear K CU RR HH SS VTT
    obtain ⟨PI, c6, d6, rfl, VI, H6, R6, S6, C6⟩ := hcut
    obtain ⟨s_VI, f_VI, z_VI⟩ := VI.open
    by_cases hpc : Q.c = 0
    · have hpb : (Q.c == 0) = true := by simp [hpc]
      have e1 := HPL.out
      rw [if_pos hpc] at e1
      have E1 := Hid.mk e1
      have HPC := Hid.mk hpc
      clear e1 hpc
      go_wp2_with (go_at_call 43; refine (require_ok 5 _).mono ?_; rintro e wq ⟨rfl, rfl⟩)
      go_ret
      exact ⟨S6.out, .inr ⟨Q, rA2, by rw [rd1, if_neg (by decide), if_neg (by decide), if_pos (by decide), hA1]; dsimp only; rw [hA2]; dsimp only; rw [if_neg (by decide)]; unfold rdP; rw [HQ.out, if_pos HPC.out], rfl, ⟨c6, d6, by rw [← E1.out]; exact H6.out, C6.out⟩, xA2, eA2, R6.out⟩⟩
    · have hpb : (Q.c == 0) = false := by simp [hpc]
      have HPC := Hid.mk hpc
      clear hpc
      go_wp2_with (go_at_call 43; refine (require_no 5 _).mono ?_; rintro e wq ⟨rfl, rfl⟩)
      exact ⟨rfl, S6.out, .inl ⟨by rw [rd1, if_neg (by decide), if_neg (by decide), if_pos (by decide), hA1]; dsimp only; rw [hA2]; dsimp only; rw [if_neg (by decide)]; unfold rdP; rw [HQ.out, if_neg HPC.out], rfl⟩⟩

set_option maxRecDepth 20000 in
set_option maxHeartbeats 16000000 in
theorem term_two4 (f base P pb g bx : Nat) (xs : List T4) (r : List Int) (x : Option Addr) (m d : Nat) (c : Option Addr) (dd : Nat) (w : World) (ih : TermOk f base P pb g bx) (hl : (4 :: r).length ≤ f + 1) (R : Rdr w P (.pointer (some ⟨pb, 0, none⟩)) bx x m d (4 :: r)) (hb : Bytes (4 :: r)) (H : Bk w base pb g c dd xs) (ht : tfC xs = 0) (hP : ∀ k, BkX pb g c k → k ≠ P) (hbP : base ≤ P) (hbx : bx < base) :
    Calls Tryz.prog 42 #[.pointer (some ⟨P, 0, none⟩)] w (TermRead (f + 1) xs (4 :: r) base P pb g bx c w) := by
  have q1 := build_tmo
  unfold TermRead
  have hx4 := (tfC_zero ht).1
  have hml := R.len
  simp only [List.length_cons] at hml
  have hbr := bytes_tail hb
  have hne : bx ≠ P := by omega
  have CN := number_ok P (.pointer (some ⟨pb, 0, none⟩)) bx x m d (4 :: r) 1 w R hb (by decide) (by decide) (by omega) hne
  rw [takeN_head, show ((1 : Nat) : Int) = 1 from rfl, List.drop_succ_cons, List.drop_zero] at CN
  replace CN := Hid.mk CN
  have hPl := R.v.1
  have HX := Hid.mk hP
  have HLT := Hid.mk H.lt
  have HT := Hid.mk ht
  simp only [List.length_cons] at hl
  have hl' : r.length ≤ f := by omega
  go_enter Tryz.func42, Tryz.ntmps42
  go_wp2_with fail
  refine CN.out.mono ?_
  rintro e w1 ⟨rfl, S1, x1, R1⟩
  have H1 := H.sm S1 (fun k e => by subst e; exact fun h => HX.out _ h rfl)
  have S : Sm (fun k => k = P ∨ BkX pb g c k) w w1 := S1.more (fun k e => .inl e)
  have hs1 := S1.size
  have HC : Hid (∀ k, BkX pb g c k → k < w.heap.size → BkX pb g c k) := Hid.mk (fun k h _ => h)
  clear R H S1 CN
  have R := R1
  have H := H1
  clear R1 H1
  replace R := R.kept (belowA w1 (.cells #[.int .i64 4, .int .i64 0, .int .i64 0, .int .i64 0] 70))
  replace H := H.kept (belowA w1 (.cells #[.int .i64 4, .int .i64 0, .int .i64 0, .int .i64 0] 70))
  replace S := S.trans (Sm.below (belowA w1 (.cells #[.int .i64 4, .int .i64 0, .int .i64 0, .int .i64 0] 70)))
  have VT := V.new w1 [.int .i64 4, .int .i64 0, .int .i64 0, .int .i64 0] 70
  have hT1 : w.heap.size ≤ w1.heap.size := hs1
  have hTB : Hid (P < w1.heap.size ∧ ∀ k, BkX pb g c k → k < w1.heap.size) := Hid.mk ⟨by omega, fun k h => by have := (HLT.out k h).2; omega⟩
  obtain ⟨s_VT, f_VT, z_VT⟩ := VT.open
  clear s_VT f_VT z_VT
  have CT := Hid.mk (ih xs r x1 (m - 1) (d - 1) c dd _ (by omega) R hbr H HT.out HX.out hbP hbx)
  unfold TermRead at CT
  obtain ⟨s_VT, f_VT, z_VT⟩ := VT.open
  go_wp2_with fail
  refine CT.out.mono ?_
  rintro e wt1 ⟨SA1, ⟨hnA1, rfl⟩ | ⟨A1, rA1, hA1, rfl, ⟨cA1, dA1, HA1, hcA1⟩, xA1, eA1, RA1⟩⟩
  clear s_VT f_VT z_VT
  · exact ⟨rfl, Sm.less S.size SA1 (fun k hk hx => by rcases hx with e | e; exact .inl e; exact .inr (HC.out k e hk)) S, .inl ⟨by rw [rd1, if_neg (by decide), if_neg (by decide), if_pos (by decide), hnA1], rfl⟩⟩
  have hsA1 := SA1.size
  simp only [World.size_alloc] at hsA1
  have VT2 := VT.sm SA1 (by rintro (e | e); have := hTB.out.1; omega; exact absurd e (by exact fun e => by have := hTB.out.2 _ e; omega))
  have Sn : Sm (fun k => k = P ∨ BkX pb g c k) w wt1 := Sm.less S.size SA1 (fun k hk hx => by rcases hx with e | e; exact .inl e; exact .inr (HC.out k e hk)) S
  have GA1 := rd1_ok f _ _ _ HT.out hA1
  have gkA1 : 0 ≤ A1.k ∧ A1.k < A1.l.length := ⟨GA1.k0, GA1.k1⟩
  have g4A1 : A1.l.length ≤ 400 := (tfC_zero GA1.right).1
  have gbA1 : Bytes rA1 ∧ rA1.length ≤ r.length := by
    obtain ⟨nn, _, n1, n2⟩ := GA1.rest
    simp only at n2
    rw [n2]
    exact ⟨bytes_dropN hbr nn, by rw [List.length_drop]; omega⟩
  have hcnA1 : Hid (∀ k, BkX pb g cA1 k → k < w.heap.size → BkX pb g c k) := Hid.mk (fun k h hk => HC.out k (hcA1 k h (Nat.lt_of_lt_of_le hk S.size)) hk)
  have hfarA1 : Hid (∀ k, BkX pb g cA1 k → k ≠ P ∧ k ≠ w1.heap.size) := Hid.mk (fun k h => by
    rcases Nat.lt_or_ge k w1.heap.size with h1 | h1
    · rcases Nat.lt_or_ge k w.heap.size with h2 | h2
      · exact ⟨HX.out k (hcnA1.out k h h2), by omega⟩
      · exact ⟨by omega, by omega⟩
    · refine ⟨by omega, fun e => ?_⟩
      have h2 := hcA1 k h (by have := VT.1; omega)
      have := hTB.out.2 _ h2; omega)
  clear CT SA1 VT S R H hcA1
  have R := RA1
  have H := HA1
  have S := Sn
  have VT := VT2
  clear RA1 HA1 Sn VT2
  obtain ⟨s_VT, f_VT, z_VT⟩ := VT.open
  clear s_VT f_VT z_VT
  have CT := Hid.mk (ih A1.l rA1 xA1 rA1.length eA1 cA1 dA1 _ (by have := gbA1.2; omega) R gbA1.1 H GA1.right (fun k h => (hfarA1.out k h).1) hbP hbx)
  unfold TermRead at CT
  obtain ⟨s_VT, f_VT, z_VT⟩ := VT.open
  go_wp2_with fail
  refine CT.out.mono ?_
  rintro e wt2 ⟨SA2, ⟨hnA2, rfl⟩ | ⟨A2, rA2, hA2, rfl, ⟨cA2, dA2, HA2, hcA2⟩, xA2, eA2, RA2⟩⟩
  clear s_VT f_VT z_VT
  · exact ⟨rfl, Sm.less S.size SA2 (fun k hk hx => by rcases hx with e | e; exact .inl e; exact .inr (hcnA1.out k e hk)) S, .inl ⟨by rw [rd1, if_neg (by decide), if_neg (by decide), if_pos (by decide), hA1]; dsimp only; rw [hnA2], rfl⟩⟩
  have hsA2 := SA2.size
  have VT2 := VT.sm SA2 (by rintro (e | e); have := hTB.out.1; omega; exact absurd e (by exact fun e => (hfarA1.out _ e).2 rfl))
  have Sn : Sm (fun k => k = P ∨ BkX pb g c k) w wt2 := Sm.less S.size SA2 (fun k hk hx => by rcases hx with e | e; exact .inl e; exact .inr (hcnA1.out k e hk)) S
  have GA2 := rd1_ok f _ _ _ GA1.right hA2
  have gkA2 : 0 ≤ A2.k ∧ A2.k < A2.l.length := ⟨GA2.k0, GA2.k1⟩
  have g4A2 : A2.l.length ≤ 400 := (tfC_zero GA2.right).1
  have gbA2 : Bytes rA2 ∧ rA2.length ≤ rA1.length := by
    obtain ⟨nn, _, n1, n2⟩ := GA2.rest
    simp only at n2
    rw [n2]
    exact ⟨bytes_dropN gbA1.1 nn, by rw [List.length_drop]; omega⟩
  have hcnA2 : Hid (∀ k, BkX pb g cA2 k → k < w.heap.size → BkX pb g c k) := Hid.mk (fun k h hk => hcnA1.out k (hcA2 k h (Nat.lt_of_lt_of_le hk S.size)) hk)
  have hfarA2 : Hid (∀ k, BkX pb g cA2 k → k ≠ P ∧ k ≠ w1.heap.size) := Hid.mk (fun k h => by
    rcases Nat.lt_or_ge k w1.heap.size with h1 | h1
    · rcases Nat.lt_or_ge k w.heap.size with h2 | h2
      · exact ⟨HX.out k (hcnA2.out k h h2), by omega⟩
      · exact ⟨by omega, by omega⟩
    · refine ⟨by omega, fun e => ?_⟩
      have h2 := hcA2 k h (by have := VT.1; omega)
      exact absurd e (hfarA1.out k h2).2)
  clear CT SA2 VT S R H hcA2
  have R := RA2
  have H := HA2
  have S := Sn
  have VT := VT2
  clear RA2 HA2 Sn VT2
  obtain ⟨s_VT, f_VT, z_VT⟩ := VT.open
  clear s_VT f_VT z_VT
  have VT0 := VT
  have hPT : P < w1.heap.size := hTB.out.1
  replace VT := VT.set (i := 1) (by simp) (.int .i64 A1.k)
  simp only [List.set_cons_zero, List.set_cons_succ] at VT
  replace R := R.sm (X := fun k => k = w1.heap.size) (Sm.cell (X := fun k => k = w1.heap.size) (p := ⟨w1.heap.size, 1, none⟩) rfl (.int .i64 A1.k)) (by omega) (by omega)
  replace H := H.sm (X := fun k => k = w1.heap.size) (Sm.cell (X := fun k => k = w1.heap.size) (p := ⟨w1.heap.size, 1, none⟩) rfl (.int .i64 A1.k)) (fun k e h => by rw [e] at h; exact absurd h (by exact fun e => (hfarA2.out _ e).2 rfl))
  replace S := S.newCell (p := ⟨w1.heap.size, 1, none⟩) (by simp only; omega) (.int .i64 A1.k)
  replace VT := VT.set (i := 2) (by simp) (.int .i64 A2.k)
  simp only [List.set_cons_zero, List.set_cons_succ] at VT
  replace R := R.sm (X := fun k => k = w1.heap.size) (Sm.cell (X := fun k => k = w1.heap.size) (p := ⟨w1.heap.size, 2, none⟩) rfl (.int .i64 A2.k)) (by omega) (by omega)
  replace H := H.sm (X := fun k => k = w1.heap.size) (Sm.cell (X := fun k => k = w1.heap.size) (p := ⟨w1.heap.size, 2, none⟩) rfl (.int .i64 A2.k)) (fun k e h => by rw [e] at h; exact absurd h (by exact fun e => (hfarA2.out _ e).2 rfl))
  replace S := S.newCell (p := ⟨w1.heap.size, 2, none⟩) (by simp only; omega) (.int .i64 A2.k)
  obtain ⟨s_VT, f_VT, z_VT⟩ := VT0.open
  go_upto_region 14 with fail
  clear s_VT f_VT z_VT VT0
  generalize (World.setCell (World.setCell wt2 ⟨w1.heap.size, 1, none⟩ (.int .i64 A1.k)) ⟨w1.heap.size, 2, none⟩ (.int .i64 A2.k)) = w3 at *
  have CU := fun w h => put_ok base pb g cA2 dA2 A2.l ⟨4, A1.k, A2.k, 0⟩ w h (okT_of (by decide) (by omega) (by omega) (by decide)) g4A2
  simp only at CU
  obtain ⟨Q, hQ⟩ : ∃ Q, put A2.l ⟨4, A1.k, A2.k, 0⟩ = Q := ⟨_, rfl⟩
  have HQ := Hid.mk hQ
  have HPL : Hid (putL A2.l ⟨4, A1.k, A2.k, 0⟩ = if Q.c = 0 then Q.l else A2.l) := Hid.mk (by unfold putL; rw [hQ])
  rw [hQ] at CU
  replace CU := Hid.mk CU
  clear hQ
  have hPf : ¬ BkX pb g cA2 P := fun h => (fun k h => (hfarA2.out k h).1) P h rfl
  have hTf : ¬ BkX pb g cA2 (w1.heap.size) := by intro e; exact absurd e (by exact fun e => (hfarA2.out _ e).2 rfl)
  have K : ∀ w' : World, Sm (BkX pb g cA2) w3 w' → (w'.cell? ⟨P, 1, none⟩ = some (.pointer (some ⟨pb, 0, none⟩)) ∧ w'.cell? ⟨w1.heap.size, 0, none⟩ = some (.int .i64 4) ∧ w'.cell? ⟨w1.heap.size, 1, none⟩ = some (.int .i64 A1.k) ∧ w'.cell? ⟨w1.heap.size, 2, none⟩ = some (.int .i64 A2.k) ∧ w'.cell? ⟨w1.heap.size, 3, none⟩ = some (.int .i64 0)) := fun w' h => ⟨(R.v.sm h hPf).2.1 1 (by simp), (VT.sm h hTf).2.1 0 (by simp), (VT.sm h hTf).2.1 1 (by simp), (VT.sm h hTf).2.1 2 (by simp), (VT.sm h hTf).2.1 3 (by simp)⟩
  have K := Hid.mk K
  have RR := Hid.mk R
  have HH := Hid.mk H
  have SS := Hid.mk S
  have VTT := Hid.mk VT
  have hPz := R.v.1
  clear R H S VT
  go_cut [4] (fun p wx => ∃ (PI : Nat) (c6 : Option Addr) (d6 : Nat), p = .pointer (some ⟨PI, 0, none⟩) ∧ V wx PI [.int .i64 Q.c, .int .i64 Q.k] ∧ Hid (Bk wx base pb g c6 d6 (putL A2.l ⟨4, A1.k, A2.k, 0⟩)) ∧ Hid (Rdr wx P (.pointer (some ⟨pb, 0, none⟩)) bx xA2 rA2.length eA2 rA2) ∧ Hid (Sm (fun k => k = P ∨ BkX pb g c k) w wx) ∧ Hid (∀ k, BkX pb g c6 k → k < w.heap.size → BkX pb g c k))
  case first =>
    refine wp_region_held_drew (S := (fun w' => w'.cell? ⟨P, 1, none⟩ = some (.pointer (some ⟨pb, 0, none⟩)) ∧ w'.cell? ⟨w1.heap.size, 0, none⟩ = some (.int .i64 4) ∧ w'.cell? ⟨w1.heap.size, 1, none⟩ = some (.int .i64 A1.k) ∧ w'.cell? ⟨w1.heap.size, 2, none⟩ = some (.int .i64 A2.k) ∧ w'.cell? ⟨w1.heap.size, 3, none⟩ = some (.int .i64 0))) (by kernel_rfl) (K.out _ (Sm.below (Below.refl _ _).drew)) (fun hHeld => ?_)
    have bd : Sm (BkX pb g cA2) w3 w3.drew := Sm.below (Below.refl _ _).drew
    have HBd := Hid.mk (HH.out.kept (Below.refl _ _).drew)
    have hd0 := Hid.mk (show w3.drew.heap.size = w3.heap.size from rfl)
    generalize w3.drew = wd at *
    refine wpAnyH_take (i := 0) (oi := _) (v := ?vtmt41) rfl (by kernel_rfl) (by kernel_rfl) (by kernel_rfl) (fun _ _ _ h => h) (Or.inl ⟨by kernel_rfl, ?hytmt41⟩) hHeld ?resttmt41
    case hytmt41 => (intro w hSw; (try dsimp only at hSw); go_simp; first | done | with_reducible rfl)
    try simp only [Act.put, List.getElem_toArray, List.getElem_cons_zero, List.setIfInBounds_toArray, List.set_cons_zero, List.set_cons_succ]
    refine wpAnyH_take (i := 1) (oi := _) (v := ?vtmt42) rfl (by kernel_rfl) (by kernel_rfl) (by kernel_rfl) (fun _ _ _ h => h) (Or.inl ⟨by kernel_rfl, ?hytmt42⟩) hHeld ?resttmt42
    case hytmt42 => (intro w hSw; (try dsimp only at hSw); go_simp; first | done | with_reducible rfl)
    try simp only [Act.put, List.getElem_toArray, List.getElem_cons_zero, List.getElem_cons_succ, List.setIfInBounds_toArray, List.set_cons_zero, List.set_cons_succ]
    refine wpAnyH_take (i := 2) (oi := _) (v := ?vtmt43) rfl (by kernel_rfl) (by kernel_rfl) (by kernel_rfl) (fun _ _ _ h => h) (Or.inl ⟨by kernel_rfl, ?hytmt43⟩) hHeld ?resttmt43
    case hytmt43 => (intro w hSw; (try dsimp only at hSw); go_simp; first | done | with_reducible rfl)
    try simp only [Act.put, List.getElem_toArray, List.getElem_cons_zero, List.getElem_cons_succ, List.setIfInBounds_toArray, List.set_cons_zero, List.set_cons_succ]
    refine wpAnyH_take (i := 3) (oi := _) (v := ?vtmt44) rfl (by kernel_rfl) (by kernel_rfl) (by kernel_rfl) (fun _ _ _ h => h) (Or.inl ⟨by kernel_rfl, ?hytmt44⟩) hHeld ?resttmt44
    case hytmt44 => (intro w hSw; (try dsimp only at hSw); go_simp; first | done | with_reducible rfl)
    try simp only [Act.put, List.getElem_toArray, List.getElem_cons_zero, List.getElem_cons_succ, List.setIfInBounds_toArray, List.set_cons_zero, List.set_cons_succ]
    refine wpAnyH_take (i := 4) (oi := _) (v := ?vtmt45) rfl (by kernel_rfl) (by kernel_rfl) (by kernel_rfl) (fun _ _ _ h => h) (Or.inl ⟨by kernel_rfl, ?hytmt45⟩) hHeld ?resttmt45
    case hytmt45 => (intro w hSw; (try dsimp only at hSw); go_simp; first | done | with_reducible rfl)
    try simp only [Act.put, List.getElem_toArray, List.getElem_cons_zero, List.getElem_cons_succ, List.setIfInBounds_toArray, List.set_cons_zero, List.set_cons_succ]
    refine wpAnyH_ready (rs := [5, 6]) (by kernel_rfl) (by simp) ?_
    refine AllReadyH.cons (o := _) rfl (fun K0 hK0 => ?_) (AllReadyH.cons (o := _) rfl (fun K0 hK0 => ?_) AllReadyH.nil)
    · skip
      have HB := HBd.out
      go_simp
      go_at_call 68
      refine (CU.out _ HB).mono ?_
      rintro e w6 ⟨c6, d6, rfl, H6, S6, hc6⟩
      have T6 := bd.trans S6
      have hz6 := S6.size
      refine hK0.out _ _ (K.out _ T6) (fun hHeld => ?_)
      clear hK0 K0
      try simp only [Act.put, List.getElem_toArray, List.getElem_cons_zero, List.getElem_cons_succ, List.setIfInBounds_toArray, List.set_cons_zero, List.set_cons_succ]
      refine wpAnyH_ready (rs := [6]) (by kernel_rfl) (by simp) ?_
      refine AllReadyH.cons (o := _) rfl (fun K0 hK0 => ?_) AllReadyH.nil
      go_simp
      have b7 := belowA w6 (.cells #[.int .i64 0, .int .i64 0] 37)
      have T7 := T6.trans (Sm.below b7)
      have VN : V (w6.alloc (.cells #[.int .i64 0, .int .i64 0] 37)) w6.heap.size [.int .i64 0, .int .i64 0] := V.new _ _ _
      have H7 := H6.kept b7
      refine hK0.out _ _ (K.out _ T7) (fun hHeld => ?_)
      clear hK0 K0
      try simp only [Act.put, List.getElem_toArray, List.getElem_cons_zero, List.getElem_cons_succ, List.setIfInBounds_toArray, List.set_cons_zero, List.set_cons_succ]
      have hz7 : (w6.alloc (.cells #[.int .i64 0, .int .i64 0] 37)).heap.size = w6.heap.size + 1 := World.size_alloc _ _
      have hB6 : ∀ k, BkX pb g c6 k → k ≠ w6.heap.size := fun k h => by have := (H6.lt k h).2; omega
      obtain ⟨PI, hPI⟩ : ∃ PI, w6.heap.size = PI := ⟨_, rfl⟩
      have hPIw : w3.heap.size ≤ PI := by have := hd0.out; omega
      generalize w6.alloc (.cells #[.int .i64 0, .int .i64 0] 37) = wn at *
      rw [hPI] at VN hB6 ⊢
      refine wpAnyH_ready (rs := [7]) (by kernel_rfl) (by simp) ?_
      refine AllReadyH.cons (o := _) rfl (fun K0 hK0 => ?_) AllReadyH.nil
      rw [if_pos (by rfl)]
      have hT := VN.there
      have VF := VN.filled [.int .i64 Q.c, .int .i64 Q.k] rfl
      have HF := H7.apart (B := PI) hB6 0 [.int .i64 Q.c, .int .i64 Q.k]
      have Tn : Sm (BkX pb g cA2) w3 (World.setCells wn PI 0 [.int .i64 Q.c, .int .i64 Q.k]) := Sm.newCells T7 hPIw 0 _
      have RF := RR.out.sm Tn hPf (fun h => by have := (HH.out.lt _ h).1; omega)
      have SF := Sm.less SS.out.size Tn (fun k hk hx => .inr (hcnA2.out k hx hk)) SS.out
      have CF : ∀ k, BkX pb g c6 k → k < w.heap.size → BkX pb g c k := fun k h hk => hcnA2.out k (hc6 k h (by have := SS.out.size; have := hd0.out; omega)) hk
      refine wp_store_mid _ _ _ rfl PI 0 #[.int .i64 Q.c, .int .i64 Q.k] rfl rfl hT (by kernel_rfl) (by kernel_rfl) ?_
      refine hK0.out _ _ (K.out _ Tn) (fun hHeld => ?_)
      clear hK0 K0
      refine wpAnyH_done (by kernel_rfl) ?_ _
      go_wp2_with fail
      go_meet
      exact ⟨PI, c6, d6, rfl, VF, Hid.mk HF, Hid.mk RF, Hid.mk SF, Hid.mk CF⟩
    · skip
      go_simp
      have b7 := belowA wd (.cells #[.int .i64 0, .int .i64 0] 37)
      have T7 := bd.trans (Sm.below b7)
      have VN0 : V (wd.alloc (.cells #[.int .i64 0, .int .i64 0] 37)) wd.heap.size [.int .i64 0, .int .i64 0] := V.new _ _ _
      have HB := HBd.out.kept b7
      have hz7 : (wd.alloc (.cells #[.int .i64 0, .int .i64 0] 37)).heap.size = wd.heap.size + 1 := World.size_alloc _ _
      refine hK0.out _ _ (K.out _ T7) (fun hHeld => ?_)
      clear hK0 K0
      try simp only [Act.put, List.getElem_toArray, List.getElem_cons_zero, List.getElem_cons_succ, List.setIfInBounds_toArray, List.set_cons_zero, List.set_cons_succ]
      have hBd : ∀ k, BkX pb g cA2 k → k ≠ wd.heap.size := fun k h => by have := (HBd.out.lt k h).2; omega
      obtain ⟨PI, hPI⟩ : ∃ PI, wd.heap.size = PI := ⟨_, rfl⟩
      have hPIw : w3.heap.size ≤ PI := by have := hd0.out; omega
      generalize wd.alloc (.cells #[.int .i64 0, .int .i64 0] 37) = wa at *
      rw [hPI] at VN0 hBd hz7 ⊢
      refine wpAnyH_ready (rs := [5]) (by kernel_rfl) (by simp) ?_
      refine AllReadyH.cons (o := _) rfl (fun K0 hK0 => ?_) AllReadyH.nil
      go_simp
      go_at_call 68
      refine (CU.out _ HB).mono ?_
      rintro e w6 ⟨c6, d6, rfl, H6, S6, hc6⟩
      have T6 := T7.trans S6
      have hz6 := S6.size
      refine hK0.out _ _ (K.out _ T6) (fun hHeld => ?_)
      clear hK0 K0
      try simp only [Act.put, List.getElem_toArray, List.getElem_cons_zero, List.getElem_cons_succ, List.setIfInBounds_toArray, List.set_cons_zero, List.set_cons_succ]
      have VN := VN0.sm S6 (fun h => hBd _ h rfl)
      have hB6 : ∀ k, BkX pb g c6 k → k ≠ PI := fun k h e => hBd k (hc6 k h (by omega)) e
      have hc6' : ∀ k, BkX pb g c6 k → k < wd.heap.size → BkX pb g cA2 k := fun k h hk => hc6 k h (by omega)
      clear hc6
      have hc6 := hc6'
      clear hc6'
      generalize w6 = wn at *
      refine wpAnyH_ready (rs := [7]) (by kernel_rfl) (by simp) ?_
      refine AllReadyH.cons (o := _) rfl (fun K0 hK0 => ?_) AllReadyH.nil
      rw [if_pos (by rfl)]
      have hT := VN.there
      have VF := VN.filled [.int .i64 Q.c, .int .i64 Q.k] rfl
      have HF := H6.apart (B := PI) hB6 0 [.int .i64 Q.c, .int .i64 Q.k]
      have Tn : Sm (BkX pb g cA2) w3 (World.setCells wn PI 0 [.int .i64 Q.c, .int .i64 Q.k]) := Sm.newCells T6 hPIw 0 _
      have RF := RR.out.sm Tn hPf (fun h => by have := (HH.out.lt _ h).1; omega)
      have SF := Sm.less SS.out.size Tn (fun k hk hx => .inr (hcnA2.out k hx hk)) SS.out
      have CF : ∀ k, BkX pb g c6 k → k < w.heap.size → BkX pb g c k := fun k h hk => hcnA2.out k (hc6 k h (by have := SS.out.size; have := hd0.out; omega)) hk
      refine wp_store_mid _ _ _ rfl PI 0 #[.int .i64 Q.c, .int .i64 Q.k] rfl rfl hT (by kernel_rfl) (by kernel_rfl) ?_
      refine hK0.out _ _ (K.out _ Tn) (fun hHeld => ?_)
      clear hK0 K0
      refine wpAnyH_done (by kernel_rfl) ?_ _
      go_wp2_with fail
      go_meet
      exact ⟨PI, c6, d6, rfl, VF, Hid.mk HF, Hid.mk RF, Hid.mk SF, Hid.mk CF⟩
  case rest =>
    clear K CU RR HH SS VTT
    obtain ⟨PI, c6, d6, rfl, VI, H6, R6, S6, C6⟩ := hcut
    obtain ⟨s_VI, f_VI, z_VI⟩ := VI.open
    by_cases hpc : Q.c = 0
    · have hpb : (Q.c == 0) = true := by simp [hpc]
      have e1 := HPL.out
      rw [if_pos hpc] at e1
      have E1 := Hid.mk e1
      have HPC := Hid.mk hpc
      clear e1 hpc
      go_wp2_with (go_at_call 43; refine (require_ok 5 _).mono ?_; rintro e wq ⟨rfl, rfl⟩)
      go_ret
      exact ⟨S6.out, .inr ⟨Q, rA2, by rw [rd1, if_neg (by decide), if_neg (by decide), if_pos (by decide), hA1]; dsimp only; rw [hA2]; dsimp only; rw [if_neg (by decide)]; unfold rdP; rw [HQ.out, if_pos HPC.out], rfl, ⟨c6, d6, by rw [← E1.out]; exact H6.out, C6.out⟩, xA2, eA2, R6.out⟩⟩
    · have hpb : (Q.c == 0) = false := by simp [hpc]
      have HPC := Hid.mk hpc
      clear hpc
      go_wp2_with (go_at_call 43; refine (require_no 5 _).mono ?_; rintro e wq ⟨rfl, rfl⟩)
      exact ⟨rfl, S6.out, .inl ⟨by rw [rd1, if_neg (by decide), if_neg (by decide), if_pos (by decide), hA1]; dsimp only; rw [hA2]; dsimp only; rw [if_neg (by decide)]; unfold rdP; rw [HQ.out, if_neg HPC.out], rfl⟩⟩

end Go.Proofs.YtfldgeokigcokaaGreat
