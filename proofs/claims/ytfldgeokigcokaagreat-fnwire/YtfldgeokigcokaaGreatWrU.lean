/- DecodeTerm: the model. -/
import Derived.Test.YtfldgeokigcokaaGreatWrN
import Derived.Test.YtfldgeokigcokaaGreatWrF
import Derived.Test.YtfldgeokigcokaaGreatTmJ
namespace Go.Proofs.YtfldgeokigcokaaGreat
open Go.RowKit

theorem OwnTerm.none' {w : World} {base : Nat} : OwnTerm w base .none 0 [] := World.ownsRow_nil _ _ _ _

set_option maxRecDepth 20000 in
set_option maxHeartbeats 16000000 in
theorem specDecodeTerm_ok (a : Option Addr) (n ca : Nat) (xs : List T4) (b : Option Addr) (m cb : Nat) (ds : List Int) (w : World) (ha : RdTerm w a xs) (hn : xs.length = n) (hx : n ≤ 1048576) (hca : n ≤ ca) (hcn : a = none → ca = 0) (hr : Rd .u8 w b ds) (hb : Bytes ds) (hm : ds.length = m) (hm1 : m ≤ 1048576) :
    Calls Tryz.prog 7 #[.slice a n ca, .slice b m cb] w fun e w' => ∃ c d, e = .returned (.agg #[.int .i64 (deT xs ds).c, .int .i64 (deT xs ds).k, .slice c (deT xs ds).l.length d]) ∧ OwnTerm w' w.heap.size c d (deT xs ds).l ∧ Below w.heap.size w w' := by
  have q1 := build_tr0'
  have CT := Hid.mk (fun w h => specTermsFault_ok a n ca xs w h hn (by unfold maxLen; omega) hca)
  have h0 : tfC ([] : List T4) = 0 := by unfold tfC; simp [tfF]
  rcases de_ways xs ds with ⟨h, e⟩ | ⟨h, h1, e⟩ | ⟨h, h1, hw, e⟩ | ⟨t, h, h1, hw, e⟩
  · rw [e]
    have h2 : (tfC xs != 0) = true := by simp [h]
    clear e h
    generalize tfC xs = kk at *
    go_enter Tryz.func7, Tryz.ntmps7
    have B := Below.refl w.heap.size w
    replace ha := ha.kept (belowA w (.cells #[.int .i64 0, .int .i64 0, .slice none 0 0] 28))
    replace hr := hr.kept (belowA w (.cells #[.int .i64 0, .int .i64 0, .slice none 0 0] 28))
    replace B := thenB B (belowA w (.cells #[.int .i64 0, .int .i64 0, .slice none 0 0] 28))
    have VR := V.new w [.int .i64 0, .int .i64 0, .slice none 0 0] 28
    obtain ⟨s_VR, f_VR, z_VR⟩ := VR.open
    have Bo := B
    go_wp2_with fail
    refine (CT.out _ ha).mono ?_
    rintro e w1 ⟨rfl, b1⟩
    clear s_VR f_VR z_VR
    have S1 := b1.size
    simp only [World.size_alloc] at S1
    replace VR := VR.kept b1
    replace ha := ha.kept b1
    replace hr := hr.kept b1
    replace B := thenB B b1
    clear b1
    obtain ⟨s_VR, f_VR, z_VR⟩ := VR.open
    have Bo := B
    clear s_VR f_VR z_VR
    have VF := Hid.mk (VR.filled [.int .i64 kk, .int .i64 0, .slice none 0 0] rfl)
    have HT := Hid.mk VR.there
    have BR := belowCells B (show w.heap.size ≤ w.heap.size by (first | omega | (simp; done) | (simp; omega))) 0 [.int .i64 kk, .int .i64 0, .slice none 0 0]
    replace BR := Hid.mk BR
    obtain ⟨s_VR, f_VR, z_VR⟩ := VR.open
    go_wp2_with (refine wpList_store_mid rfl 28 _ _ rfl (w.heap.size) 0 #[.int .i64 kk, .int .i64 0, .slice none 0 0] rfl rfl HT.out (by kernel_rfl) (by kernel_rfl) ?_)
    refine bodyPost_ret (v := .agg #[.int .i64 kk, .int .i64 0, .slice none 0 0]) (results_row Tryz.results7 _ _ (w.heap.size) [.int .i64 kk, .int .i64 0, .slice none 0 0] _ rfl VF.out Tryz.underlying28 rfl (by kernel_rfl)) rfl ⟨none, 0, rfl, OwnTerm.none', BR.out⟩
  · rw [e]
    rw [h] at CT
    have h2 : (m : Int) > 400 := by omega
    clear e h h1
    go_enter Tryz.func7, Tryz.ntmps7
    have B := Below.refl w.heap.size w
    replace ha := ha.kept (belowA w (.cells #[.int .i64 0, .int .i64 0, .slice none 0 0] 28))
    replace hr := hr.kept (belowA w (.cells #[.int .i64 0, .int .i64 0, .slice none 0 0] 28))
    replace B := thenB B (belowA w (.cells #[.int .i64 0, .int .i64 0, .slice none 0 0] 28))
    have VR := V.new w [.int .i64 0, .int .i64 0, .slice none 0 0] 28
    obtain ⟨s_VR, f_VR, z_VR⟩ := VR.open
    have Bo := B
    go_wp2_with fail
    refine (CT.out _ ha).mono ?_
    rintro e w11 ⟨rfl, b11⟩
    clear s_VR f_VR z_VR
    have S11 := b11.size
    simp only [World.size_alloc] at S11
    replace VR := VR.kept b11
    replace ha := ha.kept b11
    replace hr := hr.kept b11
    replace B := thenB B b11
    clear b11
    obtain ⟨s_VR, f_VR, z_VR⟩ := VR.open
    have Bo := B
    clear s_VR f_VR z_VR
    have VF := Hid.mk (VR.filled [.int .i64 2, .int .i64 0, .slice none 0 0] rfl)
    have HT := Hid.mk VR.there
    have BR := belowCells B (show w.heap.size ≤ w.heap.size by (first | omega | (simp; done) | (simp; omega))) 0 [.int .i64 2, .int .i64 0, .slice none 0 0]
    replace BR := Hid.mk BR
    obtain ⟨s_VR, f_VR, z_VR⟩ := VR.open
    go_wp2_with (refine wpList_store_mid rfl 28 _ _ rfl (w.heap.size) 0 #[.int .i64 2, .int .i64 0, .slice none 0 0] rfl rfl HT.out (by kernel_rfl) (by kernel_rfl) ?_)
    refine bodyPost_ret (v := .agg #[.int .i64 2, .int .i64 0, .slice none 0 0]) (results_row Tryz.results7 _ _ (w.heap.size) [.int .i64 2, .int .i64 0, .slice none 0 0] _ rfl VF.out Tryz.underlying28 rfl (by kernel_rfl)) rfl ⟨none, 0, rfl, OwnTerm.none', BR.out⟩
  all_goals
    have CL0 := l7Decode_ok b m cb ds hb hm (by omega) 30 (by omega) 0 none 0 0 []
    have CL : Hid (∀ w : World, RdTerm w none [] → Rd .u8 w b ds → Calls Tryz.prog 24 #[.slice none 0 0, .slice b m cb, .int .i64 0, .int .i64 1] w (Reads w (dcd 30 [] ds 0))) := Hid.mk (fun w h1 h2 => CL0 w h1 rfl h0 (fun _ => rfl) h2 1 (by decide))
    clear CL0
    have h2 : (m : Int) ≤ 400 := by omega
  · have D := dcd_whole hb h1
    rw [hm] at D
    rcases D with ⟨_, D⟩ | ⟨t, D, _⟩
    case inr => rw [hw] at D; cases D
    rw [e]
    rw [h] at CT
    generalize dcd 30 [] ds 0 = DD at *
    obtain ⟨⟨dc, dk, dl⟩, de⟩ := DD
    unfold Reads at CL
    simp only at CL D ⊢
    obtain ⟨ll, hll⟩ : ∃ l, dl.length = l := ⟨_, rfl⟩
    rw [hll] at CL
    rcases D with D | ⟨rfl, rfl, t, C, h200⟩
    · have h3 : (de != (m : Int)) = true := by simp [D]
      clear e h h1 hw D hll
      go_enter Tryz.func7, Tryz.ntmps7
      have B := Below.refl w.heap.size w
      replace ha := ha.kept (belowA w (.cells #[.int .i64 0, .int .i64 0, .slice none 0 0] 28))
      replace hr := hr.kept (belowA w (.cells #[.int .i64 0, .int .i64 0, .slice none 0 0] 28))
      replace B := thenB B (belowA w (.cells #[.int .i64 0, .int .i64 0, .slice none 0 0] 28))
      have VR := V.new w [.int .i64 0, .int .i64 0, .slice none 0 0] 28
      obtain ⟨s_VR, f_VR, z_VR⟩ := VR.open
      have Bo := B
      go_wp2_with fail
      refine (CT.out _ ha).mono ?_
      rintro e w21 ⟨rfl, b21⟩
      clear s_VR f_VR z_VR
      have S21 := b21.size
      simp only [World.size_alloc] at S21
      replace VR := VR.kept b21
      replace ha := ha.kept b21
      replace hr := hr.kept b21
      replace B := thenB B b21
      clear b21
      obtain ⟨s_VR, f_VR, z_VR⟩ := VR.open
      have Bo := B
      go_wp2_with fail
      refine (CL.out _ (.inl rfl) hr).mono ?_
      rintro e w22 ⟨c, d, rfl, O, b22⟩
      clear s_VR f_VR z_VR
      have S22 := b22.size
      replace VR := VR.kept b22
      replace ha := ha.kept b22
      replace hr := hr.kept b22
      replace B := thenB B b22
      clear b22
      obtain ⟨s_VR, f_VR, z_VR⟩ := VR.open
      have Bo := B
      replace VR := VR.kept (belowA w22 (.cells #[.int .i64 dc, .int .i64 dk, .slice c ll d] 28))
      replace ha := ha.kept (belowA w22 (.cells #[.int .i64 dc, .int .i64 dk, .slice c ll d] 28))
      replace hr := hr.kept (belowA w22 (.cells #[.int .i64 dc, .int .i64 dk, .slice c ll d] 28))
      replace O := O.kept (belowA w22 (.cells #[.int .i64 dc, .int .i64 dk, .slice c ll d] 28))
      replace B := thenB B (belowA w22 (.cells #[.int .i64 dc, .int .i64 dk, .slice c ll d] 28))
      have VB := V.new w22 [.int .i64 dc, .int .i64 dk, .slice c ll d] 28
      clear s_VR f_VR z_VR
      obtain ⟨s_VR, f_VR, z_VR⟩ := VR.open
      obtain ⟨s_VB, f_VB, z_VB⟩ := VB.open
      have Bo := B
      go_wp2_with fail
      go_quiet (fail)
      clear s_VR f_VR z_VR s_VB f_VB z_VB
      have bq := belowN (Below.refl ((w22.alloc (.cells #[.int .i64 dc, .int .i64 dk, .slice c ll d] 28))).heap.size ((w22.alloc (.cells #[.int .i64 dc, .int .i64 dk, .slice c ll d] 28)))) nq
      replace VR := VR.kept bq
      replace VB := VB.kept bq
      replace ha := ha.kept bq
      replace hr := hr.kept bq
      replace O := O.kept bq
      replace B := thenB B bq
      clear bq
      generalize World.drewN (w22.alloc (.cells #[.int .i64 dc, .int .i64 dk, .slice c ll d] 28)) nq = wn at *
      obtain ⟨s_VR, f_VR, z_VR⟩ := VR.open
      obtain ⟨s_VB, f_VB, z_VB⟩ := VB.open
      have Bo := B
      clear s_VR f_VR z_VR s_VB f_VB z_VB
      have VF := Hid.mk (VR.filled [.int .i64 5, .int .i64 0, .slice none 0 0] rfl)
      have HT := Hid.mk VR.there
      have BR := belowCells B (show w.heap.size ≤ w.heap.size by (first | omega | (simp; done) | (simp; omega))) 0 [.int .i64 5, .int .i64 0, .slice none 0 0]
      replace BR := Hid.mk BR
      obtain ⟨s_VR, f_VR, z_VR⟩ := VR.open
      obtain ⟨s_VB, f_VB, z_VB⟩ := VB.open
      go_wp2_with (refine wpList_store_mid rfl 28 _ _ rfl (w.heap.size) 0 #[.int .i64 5, .int .i64 0, .slice none 0 0] rfl rfl HT.out (by kernel_rfl) (by kernel_rfl) ?_)
      refine bodyPost_ret (v := .agg #[.int .i64 5, .int .i64 0, .slice none 0 0]) (results_row Tryz.results7 _ _ (w.heap.size) [.int .i64 5, .int .i64 0, .slice none 0 0] _ rfl VF.out Tryz.underlying28 rfl (by kernel_rfl)) rfl ⟨none, 0, rfl, OwnTerm.none', BR.out⟩
    · clear e h h1 hw
      obtain ⟨C1, _, C2, C3, C4, _⟩ := C
      simp only at C1 C2 C3 C4
      obtain ⟨kn, rfl⟩ : ∃ j : Nat, dk = (j : Int) := ⟨dk.toNat, by omega⟩
      rw [Int.toNat_natCast] at C4
      have hkl : (kn : Int) < (ll : Int) := by omega
      have CS := Hid.mk (fun c d w h => l5Sizes_ok c ll d dl w h hll C1)
      have hsm := szL_at dl ll kn (by omega)
      rw [C4] at hsm
      have hsl := Hid.mk (szL_len dl ll)
      obtain ⟨S, hS⟩ : ∃ S, t.sz = S := ⟨_, rfl⟩
      rw [hS] at hsm h200
      replace hsm := Hid.mk hsm
      clear C1 C2 C3 C4 hS
      have h3 : ((m : Int) != (m : Int)) = false := by simp
      go_enter Tryz.func7, Tryz.ntmps7
      have B := Below.refl w.heap.size w
      replace ha := ha.kept (belowA w (.cells #[.int .i64 0, .int .i64 0, .slice none 0 0] 28))
      replace hr := hr.kept (belowA w (.cells #[.int .i64 0, .int .i64 0, .slice none 0 0] 28))
      replace B := thenB B (belowA w (.cells #[.int .i64 0, .int .i64 0, .slice none 0 0] 28))
      have VR := V.new w [.int .i64 0, .int .i64 0, .slice none 0 0] 28
      obtain ⟨s_VR, f_VR, z_VR⟩ := VR.open
      have Bo := B
      go_wp2_with fail
      refine (CT.out _ ha).mono ?_
      rintro e w41 ⟨rfl, b41⟩
      clear s_VR f_VR z_VR
      have S41 := b41.size
      simp only [World.size_alloc] at S41
      replace VR := VR.kept b41
      replace ha := ha.kept b41
      replace hr := hr.kept b41
      replace B := thenB B b41
      clear b41
      obtain ⟨s_VR, f_VR, z_VR⟩ := VR.open
      have Bo := B
      go_wp2_with fail
      refine (CL.out _ (.inl rfl) hr).mono ?_
      rintro e w42 ⟨c, d, rfl, O, b42⟩
      clear s_VR f_VR z_VR
      have S42 := b42.size
      replace VR := VR.kept b42
      replace ha := ha.kept b42
      replace hr := hr.kept b42
      replace B := thenB B b42
      clear b42
      obtain ⟨s_VR, f_VR, z_VR⟩ := VR.open
      have Bo := B
      replace VR := VR.kept (belowA w42 (.cells #[.int .i64 0, .int .i64 (kn : Int), .slice c ll d] 28))
      replace ha := ha.kept (belowA w42 (.cells #[.int .i64 0, .int .i64 (kn : Int), .slice c ll d] 28))
      replace hr := hr.kept (belowA w42 (.cells #[.int .i64 0, .int .i64 (kn : Int), .slice c ll d] 28))
      replace O := O.kept (belowA w42 (.cells #[.int .i64 0, .int .i64 (kn : Int), .slice c ll d] 28))
      replace B := thenB B (belowA w42 (.cells #[.int .i64 0, .int .i64 (kn : Int), .slice c ll d] 28))
      have VB := V.new w42 [.int .i64 0, .int .i64 (kn : Int), .slice c ll d] 28
      clear s_VR f_VR z_VR
      obtain ⟨s_VR, f_VR, z_VR⟩ := VR.open
      obtain ⟨s_VB, f_VB, z_VB⟩ := VB.open
      have Bo := B
      clear s_VR f_VR z_VR s_VB f_VB z_VB
      have K : ∀ w' : World, Below (w42.alloc (.cells #[.int .i64 0, .int .i64 (kn : Int), .slice c ll d] 28)).heap.size (w42.alloc (.cells #[.int .i64 0, .int .i64 (kn : Int), .slice c ll d] 28)) w' → (w'.cell? ⟨w42.heap.size, 0, none⟩ = some (.int .i64 0) ∧ w'.cell? ⟨w42.heap.size, 1, none⟩ = some (.int .i64 (kn : Int)) ∧ w'.cell? ⟨w42.heap.size, 2, none⟩ = some (.slice c ll d)) := fun w' h => ⟨(VB.kept h).2.1 0 (by simp), (VB.kept h).2.1 1 (by simp), (VB.kept h).2.1 2 (by simp)⟩
      have K := Hid.mk K
      go_wp2_with fail
      refine wp_region_held_drew (S := (fun w' => w'.cell? ⟨w42.heap.size, 0, none⟩ = some (.int .i64 0) ∧ w'.cell? ⟨w42.heap.size, 1, none⟩ = some (.int .i64 (kn : Int)) ∧ w'.cell? ⟨w42.heap.size, 2, none⟩ = some (.slice c ll d))) (by kernel_rfl) (K.out _ (Below.refl _ _).drew) (fun hHeld => ?_)
      refine wpAnyH_take (i := 0) (oi := _) (v := ?vz41u1) rfl (by kernel_rfl) (by kernel_rfl) (by kernel_rfl) (fun _ _ _ h => h) (Or.inl ⟨by kernel_rfl, ?hyz41u1⟩) hHeld ?restz41u1
      case hyz41u1 => (intro w hSw; (try dsimp only at hSw); go_simp; first | done | with_reducible rfl)
      try simp only [Act.put, List.getElem_toArray, List.getElem_cons_zero, List.setIfInBounds_toArray, List.set_cons_zero, List.set_cons_succ]
      refine wpAnyH_take (i := 1) (oi := _) (v := ?vz41u2) rfl (by kernel_rfl) (by kernel_rfl) (by kernel_rfl) (fun _ _ _ h => h) (Or.inl ⟨by kernel_rfl, ?hyz41u2⟩) hHeld ?restz41u2
      case hyz41u2 => (intro w hSw; (try dsimp only at hSw); go_simp; first | done | with_reducible rfl)
      try simp only [Act.put, List.getElem_toArray, List.getElem_cons_zero, List.getElem_cons_succ, List.setIfInBounds_toArray, List.set_cons_zero, List.set_cons_succ]
      refine wpAnyH_take (i := 2) (oi := _) (v := ?vz41u3) rfl (by kernel_rfl) (by kernel_rfl) (by kernel_rfl) (fun _ _ _ h => h) (Or.inl ⟨by kernel_rfl, ?hyz41u3⟩) hHeld ?restz41u3
      case hyz41u3 => (intro w hSw; (try dsimp only at hSw); go_simp; first | done | with_reducible rfl)
      try simp only [Act.put, List.getElem_toArray, List.getElem_cons_zero, List.getElem_cons_succ, List.setIfInBounds_toArray, List.set_cons_zero, List.set_cons_succ]
      refine wpAnyH_take (i := 3) (oi := _) (v := ?vz41u4) rfl (by kernel_rfl) (by kernel_rfl) (by kernel_rfl) (fun _ _ _ h => h) (Or.inl ⟨by kernel_rfl, ?hyz41u4⟩) hHeld ?restz41u4
      case hyz41u4 => (intro w hSw; (try dsimp only at hSw); go_simp; first | done | with_reducible rfl)
      try simp only [Act.put, List.getElem_toArray, List.getElem_cons_zero, List.getElem_cons_succ, List.setIfInBounds_toArray, List.set_cons_zero, List.set_cons_succ]
      refine wpAnyH_take (i := 4) (oi := _) (v := ?vz41u5) rfl (by kernel_rfl) (by kernel_rfl) (by kernel_rfl) (fun _ _ _ h => h) (Or.inl ⟨by kernel_rfl, ?hyz41u5⟩) hHeld ?restz41u5
      case hyz41u5 => (intro w hSw; (try dsimp only at hSw); go_simp; first | done | with_reducible rfl)
      try simp only [Act.put, List.getElem_toArray, List.getElem_cons_zero, List.getElem_cons_succ, List.setIfInBounds_toArray, List.set_cons_zero, List.set_cons_succ]
      refine wpAnyH_take (i := 5) (oi := _) (v := ?vz41u6) rfl (by kernel_rfl) (by kernel_rfl) (by kernel_rfl) (fun _ _ _ h => h) (Or.inl ⟨by kernel_rfl, ?hyz41u6⟩) hHeld ?restz41u6
      case hyz41u6 => (intro w hSw; (try dsimp only at hSw); go_simp; first | done | with_reducible rfl)
      try simp only [Act.put, List.getElem_toArray, List.getElem_cons_zero, List.getElem_cons_succ, List.setIfInBounds_toArray, List.set_cons_zero, List.set_cons_succ]
      refine wpAnyH_take (i := 6) (oi := _) (v := ?vz41u7) rfl (by kernel_rfl) (by kernel_rfl) (by kernel_rfl) (fun _ _ _ h => h) (Or.inl ⟨by kernel_rfl, ?hyz41u7⟩) hHeld ?restz41u7
      case hyz41u7 => (intro w hSw; (try dsimp only at hSw); go_simp; first | done | with_reducible rfl)
      try simp only [Act.put, List.getElem_toArray, List.getElem_cons_zero, List.getElem_cons_succ, List.setIfInBounds_toArray, List.set_cons_zero, List.set_cons_succ]
      refine wpAnyH_take (i := 7) (oi := _) (v := ?vz41u8) rfl (by kernel_rfl) (by kernel_rfl) (by kernel_rfl) (fun _ _ _ h => h) (Or.inl ⟨by kernel_rfl, ?hyz41u8⟩) hHeld ?restz41u8
      case hyz41u8 => (intro w hSw; (try dsimp only at hSw); go_simp; first | done | with_reducible rfl)
      try simp only [Act.put, List.getElem_toArray, List.getElem_cons_zero, List.getElem_cons_succ, List.setIfInBounds_toArray, List.set_cons_zero, List.set_cons_succ]
      refine wpAnyH_take (i := 8) (oi := _) (v := ?vz41u9) rfl (by kernel_rfl) (by kernel_rfl) (by kernel_rfl) (fun _ _ _ h => h) (Or.inl ⟨by kernel_rfl, ?hyz41u9⟩) hHeld ?restz41u9
      case hyz41u9 => (intro w hSw; (try dsimp only at hSw); go_simp; first | done | with_reducible rfl)
      try simp only [Act.put, List.getElem_toArray, List.getElem_cons_zero, List.getElem_cons_succ, List.setIfInBounds_toArray, List.set_cons_zero, List.set_cons_succ]
      refine wpAnyH_take (i := 9) (oi := _) (v := ?vz41u10) rfl (by kernel_rfl) (by kernel_rfl) (by kernel_rfl) (fun _ _ _ h => h) (Or.inl ⟨by kernel_rfl, ?hyz41u10⟩) hHeld ?restz41u10
      case hyz41u10 => (intro w hSw; (try dsimp only at hSw); go_simp; first | done | with_reducible rfl)
      try simp only [Act.put, List.getElem_toArray, List.getElem_cons_zero, List.getElem_cons_succ, List.setIfInBounds_toArray, List.set_cons_zero, List.set_cons_succ]
      refine wpAnyH_take (i := 10) (oi := _) (v := ?vz41u11) rfl (by kernel_rfl) (by kernel_rfl) (by kernel_rfl) (fun _ _ _ h => h) (Or.inl ⟨by kernel_rfl, ?hyz41u11⟩) hHeld ?restz41u11
      case hyz41u11 => (intro w hSw; (try dsimp only at hSw); go_simp; first | done | with_reducible rfl)
      try simp only [Act.put, List.getElem_toArray, List.getElem_cons_zero, List.getElem_cons_succ, List.setIfInBounds_toArray, List.set_cons_zero, List.set_cons_succ]
      refine wpAnyH_take (i := 11) (oi := _) (v := ?vz41u12) rfl (by kernel_rfl) (by kernel_rfl) (by kernel_rfl) (fun _ _ _ h => h) (Or.inl ⟨by kernel_rfl, ?hyz41u12⟩) hHeld ?restz41u12
      case hyz41u12 => (intro w hSw; (try dsimp only at hSw); go_simp; first | done | with_reducible rfl)
      try simp only [Act.put, List.getElem_toArray, List.getElem_cons_zero, List.getElem_cons_succ, List.setIfInBounds_toArray, List.set_cons_zero, List.set_cons_succ]
      refine wpAnyH_take (i := 13) (oi := _) (v := ?vz41u13) rfl (by kernel_rfl) (by kernel_rfl) (by kernel_rfl) (fun _ _ _ h => h) (Or.inl ⟨by kernel_rfl, ?hyz41u13⟩) hHeld ?restz41u13
      case hyz41u13 => (intro w hSw; (try dsimp only at hSw); go_simp; first | done | with_reducible rfl)
      try simp only [Act.put, List.getElem_toArray, List.getElem_cons_zero, List.getElem_cons_succ, List.setIfInBounds_toArray, List.set_cons_zero, List.set_cons_succ]
      refine wpAnyH_take (i := 14) (oi := _) (v := ?vz41u14) rfl (by kernel_rfl) (by kernel_rfl) (by kernel_rfl) (fun _ _ _ h => h) (Or.inl ⟨by kernel_rfl, ?hyz41u14⟩) hHeld ?restz41u14
      case hyz41u14 => (intro w hSw; (try dsimp only at hSw); go_simp; first | done | with_reducible rfl)
      try simp only [Act.put, List.getElem_toArray, List.getElem_cons_zero, List.getElem_cons_succ, List.setIfInBounds_toArray, List.set_cons_zero, List.set_cons_succ]
      refine wpAnyH_ready (rs := [12]) (by kernel_rfl) (by simp) ?_
      refine AllReadyH.cons (o := _) rfl (fun K0 hK0 => ?_) AllReadyH.nil
      go_simp
      go_at_call 25
      refine (CS.out _ _ _ (O.kept (Below.refl _ _).drew).rd).mono ?_
      rintro e wz41v15 ⟨c7, d7, rfl, O7, bz41v15⟩
      refine hK0.out _ _ (K.out _ (thenB (Below.refl _ _).drew bz41v15)) (fun hHeld => ?_)
      clear hK0 K0
      try simp only [Act.put, List.getElem_toArray, List.getElem_cons_zero, List.getElem_cons_succ, List.setIfInBounds_toArray, List.set_cons_zero, List.set_cons_succ]
      have h7 := O7.rd
      rcases h7 with h7 | ⟨b7, o7, rfl, h7⟩
      · have := hsl.out; rw [h7] at this; simp at this; omega
      have p7 := h7 kn (by have := hsl.out; omega)
      rw [hsm.out] at p7
      refine wpAnyH_take (i := 15) (oi := _) (v := ?vz41u16) rfl (by kernel_rfl) (by kernel_rfl) (by kernel_rfl) (fun _ _ _ h => h) (Or.inl ⟨by kernel_rfl, ?hyz41u16⟩) hHeld ?restz41u16
      case hyz41u16 => (intro w hSw; (try dsimp only at hSw); go_simp; first | done | with_reducible rfl)
      try simp only [Act.put, List.getElem_toArray, List.getElem_cons_zero, List.getElem_cons_succ, List.setIfInBounds_toArray, List.set_cons_zero, List.set_cons_succ]
      refine wpAnyH_ready (rs := [16]) (by kernel_rfl) (by simp) ?_
      refine AllReadyH.cons (o := _) rfl (fun K0 hK0 => ?_) AllReadyH.nil
      go_simp
      refine hK0.out _ _ (K.out _ (thenB (Below.refl _ _).drew bz41v15)) (fun hHeld => ?_)
      clear hK0 K0
      try simp only [Act.put, List.getElem_toArray, List.getElem_cons_zero, List.getElem_cons_succ, List.setIfInBounds_toArray, List.set_cons_zero, List.set_cons_succ]
      refine wpAnyH_take (i := 17) (oi := _) (v := ?vz41u17) rfl (by kernel_rfl) (by kernel_rfl) (by kernel_rfl) (fun _ _ _ h => h) (Or.inl ⟨by kernel_rfl, ?hyz41u17⟩) hHeld ?restz41u17
      case hyz41u17 => (intro w hSw; (try dsimp only at hSw); go_simp; first | done | with_reducible rfl)
      try simp only [Act.put, List.getElem_toArray, List.getElem_cons_zero, List.getElem_cons_succ, List.setIfInBounds_toArray, List.set_cons_zero, List.set_cons_succ]
      refine wpAnyH_take (i := 18) (oi := _) (v := ?vz41u18) rfl (by kernel_rfl) (by kernel_rfl) (by kernel_rfl) (fun _ _ _ h => h) (Or.inl ⟨by kernel_rfl, ?hyz41u18⟩) hHeld ?restz41u18
      case hyz41u18 => (intro w hSw; (try dsimp only at hSw); go_simp; first | done | with_reducible rfl)
      try simp only [Act.put, List.getElem_toArray, List.getElem_cons_zero, List.getElem_cons_succ, List.setIfInBounds_toArray, List.set_cons_zero, List.set_cons_succ]
      refine wpAnyH_done (by kernel_rfl) ?_ _
      clear K hHeld
      replace VR := VR.kept (thenB (Below.refl _ _).drew bz41v15)
      replace VB := VB.kept (thenB (Below.refl _ _).drew bz41v15)
      replace ha := ha.kept (thenB (Below.refl _ _).drew bz41v15)
      replace hr := hr.kept (thenB (Below.refl _ _).drew bz41v15)
      replace O := O.kept (thenB (Below.refl _ _).drew bz41v15)
      replace B := thenB B (thenB (Below.refl _ _).drew bz41v15)
      have Sz41 := ((thenB (Below.refl _ _).drew bz41v15)).size
      clear bz41v15
      obtain ⟨s_VR, f_VR, z_VR⟩ := VR.open
      obtain ⟨s_VB, f_VB, z_VB⟩ := VB.open
      have Bo := B
      clear O7 h7 p7
      clear s_VR f_VR z_VR s_VB f_VB z_VB
      have VF := Hid.mk (VR.filled [.int .i64 5, .int .i64 0, .slice none 0 0] rfl)
      have HT := Hid.mk VR.there
      have BR := belowCells B (show w.heap.size ≤ w.heap.size by (first | omega | (simp; done) | (simp; omega))) 0 [.int .i64 5, .int .i64 0, .slice none 0 0]
      replace BR := Hid.mk BR
      obtain ⟨s_VR, f_VR, z_VR⟩ := VR.open
      obtain ⟨s_VB, f_VB, z_VB⟩ := VB.open
      go_wp2_with (refine wpList_store_mid rfl 28 _ _ rfl (w.heap.size) 0 #[.int .i64 5, .int .i64 0, .slice none 0 0] rfl rfl HT.out (by kernel_rfl) (by kernel_rfl) ?_)
      refine bodyPost_ret (v := .agg #[.int .i64 5, .int .i64 0, .slice none 0 0]) (results_row Tryz.results7 _ _ (w.heap.size) [.int .i64 5, .int .i64 0, .slice none 0 0] _ rfl VF.out Tryz.underlying28 rfl (by kernel_rfl)) rfl ⟨none, 0, rfl, OwnTerm.none', BR.out⟩
  · have D := dcd_whole hb h1
    have D2 := dcd_puts hb h hw
    rw [hm] at D
    rcases D with ⟨D, _⟩ | ⟨t', D, D3, D4, C, h200⟩
    · rw [hw] at D; cases D
    have : t' = t := by rw [hw] at D; simp only [Option.some.injEq] at D; exact D.symm
    subst this
    have CM0 := l7Decode_ok b m cb ds hb hm (by omega) 30 (by omega) 0 a n ca xs
    have CM : Hid (∀ w : World, RdTerm w a xs → Rd .u8 w b ds → Calls Tryz.prog 24 #[.slice a n ca, .slice b m cb, .int .i64 0, .int .i64 1] w (Reads w (dcd 30 xs ds 0))) := Hid.mk (fun w h1 h2 => CM0 w h1 hn h hcn h2 1 (by decide))
    rw [e]
    rw [h] at CT
    unfold Reads at CM CL
    rw [D2] at CM
    generalize (dcd 30 xs ds 0).2 = pe at *
    generalize ptr xs t' = P at *
    obtain ⟨pc, pk, pl⟩ := P
    simp only at CM ⊢
    obtain ⟨l8, hl8⟩ : ∃ l, pl.length = l := ⟨_, rfl⟩
    rw [hl8] at CM ⊢
    generalize dcd 30 [] ds 0 = DD at *
    obtain ⟨⟨dc, dk, dl⟩, de⟩ := DD
    simp only at CL D3 D4 C
    subst D3 D4
    obtain ⟨ll, hll⟩ : ∃ l, dl.length = l := ⟨_, rfl⟩
    rw [hll] at CL
    clear e h h1 hw D D2 CM0
    obtain ⟨C1, _, C2, C3, C4, _⟩ := C
    simp only at C1 C2 C3 C4
    obtain ⟨kn, rfl⟩ : ∃ j : Nat, dk = (j : Int) := ⟨dk.toNat, by omega⟩
    rw [Int.toNat_natCast] at C4
    have hkl : (kn : Int) < (ll : Int) := by omega
    have CS := Hid.mk (fun c d w h => l5Sizes_ok c ll d dl w h hll C1)
    have hsm := szL_at dl ll kn (by omega)
    rw [C4] at hsm
    have hsl := Hid.mk (szL_len dl ll)
    obtain ⟨S, hS⟩ : ∃ S, t'.sz = S := ⟨_, rfl⟩
    rw [hS] at hsm h200
    replace hsm := Hid.mk hsm
    clear C1 C2 C3 C4 hS
    have h3 : ((m : Int) != (m : Int)) = false := by simp
    go_enter Tryz.func7, Tryz.ntmps7
    have B := Below.refl w.heap.size w
    replace ha := ha.kept (belowA w (.cells #[.int .i64 0, .int .i64 0, .slice none 0 0] 28))
    replace hr := hr.kept (belowA w (.cells #[.int .i64 0, .int .i64 0, .slice none 0 0] 28))
    replace B := thenB B (belowA w (.cells #[.int .i64 0, .int .i64 0, .slice none 0 0] 28))
    have VR := V.new w [.int .i64 0, .int .i64 0, .slice none 0 0] 28
    obtain ⟨s_VR, f_VR, z_VR⟩ := VR.open
    have Bo := B
    go_wp2_with fail
    refine (CT.out _ ha).mono ?_
    rintro e w61 ⟨rfl, b61⟩
    clear s_VR f_VR z_VR
    have S61 := b61.size
    simp only [World.size_alloc] at S61
    replace VR := VR.kept b61
    replace ha := ha.kept b61
    replace hr := hr.kept b61
    replace B := thenB B b61
    clear b61
    obtain ⟨s_VR, f_VR, z_VR⟩ := VR.open
    have Bo := B
    go_wp2_with fail
    refine (CL.out _ (.inl rfl) hr).mono ?_
    rintro e w62 ⟨c, d, rfl, O, b62⟩
    clear s_VR f_VR z_VR
    have S62 := b62.size
    replace VR := VR.kept b62
    replace ha := ha.kept b62
    replace hr := hr.kept b62
    replace B := thenB B b62
    clear b62
    obtain ⟨s_VR, f_VR, z_VR⟩ := VR.open
    have Bo := B
    replace VR := VR.kept (belowA w62 (.cells #[.int .i64 0, .int .i64 (kn : Int), .slice c ll d] 28))
    replace ha := ha.kept (belowA w62 (.cells #[.int .i64 0, .int .i64 (kn : Int), .slice c ll d] 28))
    replace hr := hr.kept (belowA w62 (.cells #[.int .i64 0, .int .i64 (kn : Int), .slice c ll d] 28))
    replace O := O.kept (belowA w62 (.cells #[.int .i64 0, .int .i64 (kn : Int), .slice c ll d] 28))
    replace B := thenB B (belowA w62 (.cells #[.int .i64 0, .int .i64 (kn : Int), .slice c ll d] 28))
    have VB := V.new w62 [.int .i64 0, .int .i64 (kn : Int), .slice c ll d] 28
    clear s_VR f_VR z_VR
    obtain ⟨s_VR, f_VR, z_VR⟩ := VR.open
    obtain ⟨s_VB, f_VB, z_VB⟩ := VB.open
    have Bo := B
    clear s_VR f_VR z_VR s_VB f_VB z_VB
    have K : ∀ w' : World, Below (w62.alloc (.cells #[.int .i64 0, .int .i64 (kn : Int), .slice c ll d] 28)).heap.size (w62.alloc (.cells #[.int .i64 0, .int .i64 (kn : Int), .slice c ll d] 28)) w' → (w'.cell? ⟨w62.heap.size, 0, none⟩ = some (.int .i64 0) ∧ w'.cell? ⟨w62.heap.size, 1, none⟩ = some (.int .i64 (kn : Int)) ∧ w'.cell? ⟨w62.heap.size, 2, none⟩ = some (.slice c ll d)) := fun w' h => ⟨(VB.kept h).2.1 0 (by simp), (VB.kept h).2.1 1 (by simp), (VB.kept h).2.1 2 (by simp)⟩
    have K := Hid.mk K
    go_wp2_with fail
    refine wp_region_held_drew (S := (fun w' => w'.cell? ⟨w62.heap.size, 0, none⟩ = some (.int .i64 0) ∧ w'.cell? ⟨w62.heap.size, 1, none⟩ = some (.int .i64 (kn : Int)) ∧ w'.cell? ⟨w62.heap.size, 2, none⟩ = some (.slice c ll d))) (by kernel_rfl) (K.out _ (Below.refl _ _).drew) (fun hHeld => ?_)
    refine wpAnyH_take (i := 0) (oi := _) (v := ?vz61u1) rfl (by kernel_rfl) (by kernel_rfl) (by kernel_rfl) (fun _ _ _ h => h) (Or.inl ⟨by kernel_rfl, ?hyz61u1⟩) hHeld ?restz61u1
    case hyz61u1 => (intro w hSw; (try dsimp only at hSw); go_simp; first | done | with_reducible rfl)
    try simp only [Act.put, List.getElem_toArray, List.getElem_cons_zero, List.setIfInBounds_toArray, List.set_cons_zero, List.set_cons_succ]
    refine wpAnyH_take (i := 1) (oi := _) (v := ?vz61u2) rfl (by kernel_rfl) (by kernel_rfl) (by kernel_rfl) (fun _ _ _ h => h) (Or.inl ⟨by kernel_rfl, ?hyz61u2⟩) hHeld ?restz61u2
    case hyz61u2 => (intro w hSw; (try dsimp only at hSw); go_simp; first | done | with_reducible rfl)
    try simp only [Act.put, List.getElem_toArray, List.getElem_cons_zero, List.getElem_cons_succ, List.setIfInBounds_toArray, List.set_cons_zero, List.set_cons_succ]
    refine wpAnyH_take (i := 2) (oi := _) (v := ?vz61u3) rfl (by kernel_rfl) (by kernel_rfl) (by kernel_rfl) (fun _ _ _ h => h) (Or.inl ⟨by kernel_rfl, ?hyz61u3⟩) hHeld ?restz61u3
    case hyz61u3 => (intro w hSw; (try dsimp only at hSw); go_simp; first | done | with_reducible rfl)
    try simp only [Act.put, List.getElem_toArray, List.getElem_cons_zero, List.getElem_cons_succ, List.setIfInBounds_toArray, List.set_cons_zero, List.set_cons_succ]
    refine wpAnyH_take (i := 3) (oi := _) (v := ?vz61u4) rfl (by kernel_rfl) (by kernel_rfl) (by kernel_rfl) (fun _ _ _ h => h) (Or.inl ⟨by kernel_rfl, ?hyz61u4⟩) hHeld ?restz61u4
    case hyz61u4 => (intro w hSw; (try dsimp only at hSw); go_simp; first | done | with_reducible rfl)
    try simp only [Act.put, List.getElem_toArray, List.getElem_cons_zero, List.getElem_cons_succ, List.setIfInBounds_toArray, List.set_cons_zero, List.set_cons_succ]
    refine wpAnyH_take (i := 4) (oi := _) (v := ?vz61u5) rfl (by kernel_rfl) (by kernel_rfl) (by kernel_rfl) (fun _ _ _ h => h) (Or.inl ⟨by kernel_rfl, ?hyz61u5⟩) hHeld ?restz61u5
    case hyz61u5 => (intro w hSw; (try dsimp only at hSw); go_simp; first | done | with_reducible rfl)
    try simp only [Act.put, List.getElem_toArray, List.getElem_cons_zero, List.getElem_cons_succ, List.setIfInBounds_toArray, List.set_cons_zero, List.set_cons_succ]
    refine wpAnyH_take (i := 5) (oi := _) (v := ?vz61u6) rfl (by kernel_rfl) (by kernel_rfl) (by kernel_rfl) (fun _ _ _ h => h) (Or.inl ⟨by kernel_rfl, ?hyz61u6⟩) hHeld ?restz61u6
    case hyz61u6 => (intro w hSw; (try dsimp only at hSw); go_simp; first | done | with_reducible rfl)
    try simp only [Act.put, List.getElem_toArray, List.getElem_cons_zero, List.getElem_cons_succ, List.setIfInBounds_toArray, List.set_cons_zero, List.set_cons_succ]
    refine wpAnyH_take (i := 6) (oi := _) (v := ?vz61u7) rfl (by kernel_rfl) (by kernel_rfl) (by kernel_rfl) (fun _ _ _ h => h) (Or.inl ⟨by kernel_rfl, ?hyz61u7⟩) hHeld ?restz61u7
    case hyz61u7 => (intro w hSw; (try dsimp only at hSw); go_simp; first | done | with_reducible rfl)
    try simp only [Act.put, List.getElem_toArray, List.getElem_cons_zero, List.getElem_cons_succ, List.setIfInBounds_toArray, List.set_cons_zero, List.set_cons_succ]
    refine wpAnyH_take (i := 7) (oi := _) (v := ?vz61u8) rfl (by kernel_rfl) (by kernel_rfl) (by kernel_rfl) (fun _ _ _ h => h) (Or.inl ⟨by kernel_rfl, ?hyz61u8⟩) hHeld ?restz61u8
    case hyz61u8 => (intro w hSw; (try dsimp only at hSw); go_simp; first | done | with_reducible rfl)
    try simp only [Act.put, List.getElem_toArray, List.getElem_cons_zero, List.getElem_cons_succ, List.setIfInBounds_toArray, List.set_cons_zero, List.set_cons_succ]
    refine wpAnyH_take (i := 8) (oi := _) (v := ?vz61u9) rfl (by kernel_rfl) (by kernel_rfl) (by kernel_rfl) (fun _ _ _ h => h) (Or.inl ⟨by kernel_rfl, ?hyz61u9⟩) hHeld ?restz61u9
    case hyz61u9 => (intro w hSw; (try dsimp only at hSw); go_simp; first | done | with_reducible rfl)
    try simp only [Act.put, List.getElem_toArray, List.getElem_cons_zero, List.getElem_cons_succ, List.setIfInBounds_toArray, List.set_cons_zero, List.set_cons_succ]
    refine wpAnyH_take (i := 9) (oi := _) (v := ?vz61u10) rfl (by kernel_rfl) (by kernel_rfl) (by kernel_rfl) (fun _ _ _ h => h) (Or.inl ⟨by kernel_rfl, ?hyz61u10⟩) hHeld ?restz61u10
    case hyz61u10 => (intro w hSw; (try dsimp only at hSw); go_simp; first | done | with_reducible rfl)
    try simp only [Act.put, List.getElem_toArray, List.getElem_cons_zero, List.getElem_cons_succ, List.setIfInBounds_toArray, List.set_cons_zero, List.set_cons_succ]
    refine wpAnyH_take (i := 10) (oi := _) (v := ?vz61u11) rfl (by kernel_rfl) (by kernel_rfl) (by kernel_rfl) (fun _ _ _ h => h) (Or.inl ⟨by kernel_rfl, ?hyz61u11⟩) hHeld ?restz61u11
    case hyz61u11 => (intro w hSw; (try dsimp only at hSw); go_simp; first | done | with_reducible rfl)
    try simp only [Act.put, List.getElem_toArray, List.getElem_cons_zero, List.getElem_cons_succ, List.setIfInBounds_toArray, List.set_cons_zero, List.set_cons_succ]
    refine wpAnyH_take (i := 11) (oi := _) (v := ?vz61u12) rfl (by kernel_rfl) (by kernel_rfl) (by kernel_rfl) (fun _ _ _ h => h) (Or.inl ⟨by kernel_rfl, ?hyz61u12⟩) hHeld ?restz61u12
    case hyz61u12 => (intro w hSw; (try dsimp only at hSw); go_simp; first | done | with_reducible rfl)
    try simp only [Act.put, List.getElem_toArray, List.getElem_cons_zero, List.getElem_cons_succ, List.setIfInBounds_toArray, List.set_cons_zero, List.set_cons_succ]
    refine wpAnyH_take (i := 13) (oi := _) (v := ?vz61u13) rfl (by kernel_rfl) (by kernel_rfl) (by kernel_rfl) (fun _ _ _ h => h) (Or.inl ⟨by kernel_rfl, ?hyz61u13⟩) hHeld ?restz61u13
    case hyz61u13 => (intro w hSw; (try dsimp only at hSw); go_simp; first | done | with_reducible rfl)
    try simp only [Act.put, List.getElem_toArray, List.getElem_cons_zero, List.getElem_cons_succ, List.setIfInBounds_toArray, List.set_cons_zero, List.set_cons_succ]
    refine wpAnyH_take (i := 14) (oi := _) (v := ?vz61u14) rfl (by kernel_rfl) (by kernel_rfl) (by kernel_rfl) (fun _ _ _ h => h) (Or.inl ⟨by kernel_rfl, ?hyz61u14⟩) hHeld ?restz61u14
    case hyz61u14 => (intro w hSw; (try dsimp only at hSw); go_simp; first | done | with_reducible rfl)
    try simp only [Act.put, List.getElem_toArray, List.getElem_cons_zero, List.getElem_cons_succ, List.setIfInBounds_toArray, List.set_cons_zero, List.set_cons_succ]
    refine wpAnyH_ready (rs := [12]) (by kernel_rfl) (by simp) ?_
    refine AllReadyH.cons (o := _) rfl (fun K0 hK0 => ?_) AllReadyH.nil
    go_simp
    go_at_call 25
    refine (CS.out _ _ _ (O.kept (Below.refl _ _).drew).rd).mono ?_
    rintro e wz61v15 ⟨c7, d7, rfl, O7, bz61v15⟩
    refine hK0.out _ _ (K.out _ (thenB (Below.refl _ _).drew bz61v15)) (fun hHeld => ?_)
    clear hK0 K0
    try simp only [Act.put, List.getElem_toArray, List.getElem_cons_zero, List.getElem_cons_succ, List.setIfInBounds_toArray, List.set_cons_zero, List.set_cons_succ]
    have h7 := O7.rd
    rcases h7 with h7 | ⟨b7, o7, rfl, h7⟩
    · have := hsl.out; rw [h7] at this; simp at this; omega
    have p7 := h7 kn (by have := hsl.out; omega)
    rw [hsm.out] at p7
    refine wpAnyH_take (i := 15) (oi := _) (v := ?vz61u16) rfl (by kernel_rfl) (by kernel_rfl) (by kernel_rfl) (fun _ _ _ h => h) (Or.inl ⟨by kernel_rfl, ?hyz61u16⟩) hHeld ?restz61u16
    case hyz61u16 => (intro w hSw; (try dsimp only at hSw); go_simp; first | done | with_reducible rfl)
    try simp only [Act.put, List.getElem_toArray, List.getElem_cons_zero, List.getElem_cons_succ, List.setIfInBounds_toArray, List.set_cons_zero, List.set_cons_succ]
    refine wpAnyH_ready (rs := [16]) (by kernel_rfl) (by simp) ?_
    refine AllReadyH.cons (o := _) rfl (fun K0 hK0 => ?_) AllReadyH.nil
    go_simp
    refine hK0.out _ _ (K.out _ (thenB (Below.refl _ _).drew bz61v15)) (fun hHeld => ?_)
    clear hK0 K0
    try simp only [Act.put, List.getElem_toArray, List.getElem_cons_zero, List.getElem_cons_succ, List.setIfInBounds_toArray, List.set_cons_zero, List.set_cons_succ]
    refine wpAnyH_take (i := 17) (oi := _) (v := ?vz61u17) rfl (by kernel_rfl) (by kernel_rfl) (by kernel_rfl) (fun _ _ _ h => h) (Or.inl ⟨by kernel_rfl, ?hyz61u17⟩) hHeld ?restz61u17
    case hyz61u17 => (intro w hSw; (try dsimp only at hSw); go_simp; first | done | with_reducible rfl)
    try simp only [Act.put, List.getElem_toArray, List.getElem_cons_zero, List.getElem_cons_succ, List.setIfInBounds_toArray, List.set_cons_zero, List.set_cons_succ]
    refine wpAnyH_take (i := 18) (oi := _) (v := ?vz61u18) rfl (by kernel_rfl) (by kernel_rfl) (by kernel_rfl) (fun _ _ _ h => h) (Or.inl ⟨by kernel_rfl, ?hyz61u18⟩) hHeld ?restz61u18
    case hyz61u18 => (intro w hSw; (try dsimp only at hSw); go_simp; first | done | with_reducible rfl)
    try simp only [Act.put, List.getElem_toArray, List.getElem_cons_zero, List.getElem_cons_succ, List.setIfInBounds_toArray, List.set_cons_zero, List.set_cons_succ]
    refine wpAnyH_done (by kernel_rfl) ?_ _
    clear K hHeld
    replace VR := VR.kept (thenB (Below.refl _ _).drew bz61v15)
    replace VB := VB.kept (thenB (Below.refl _ _).drew bz61v15)
    replace ha := ha.kept (thenB (Below.refl _ _).drew bz61v15)
    replace hr := hr.kept (thenB (Below.refl _ _).drew bz61v15)
    replace O := O.kept (thenB (Below.refl _ _).drew bz61v15)
    replace B := thenB B (thenB (Below.refl _ _).drew bz61v15)
    have Sz61 := ((thenB (Below.refl _ _).drew bz61v15)).size
    clear bz61v15
    obtain ⟨s_VR, f_VR, z_VR⟩ := VR.open
    obtain ⟨s_VB, f_VB, z_VB⟩ := VB.open
    have Bo := B
    clear O7 h7 p7
    have hVBz := Hid.mk VB.1
    have hVRz := Hid.mk VR.1
    go_wp2_with fail
    refine (CM.out _ ha hr).mono ?_
    rintro e w63 ⟨c8, d8, rfl, O8, b63⟩
    clear s_VR f_VR z_VR s_VB f_VB z_VB
    have S63 := b63.size
    replace VR := VR.kept b63
    replace VB := VB.kept b63
    replace ha := ha.kept b63
    replace hr := hr.kept b63
    replace B := thenB B b63
    clear b63
    obtain ⟨s_VR, f_VR, z_VR⟩ := VR.open
    obtain ⟨s_VB, f_VB, z_VB⟩ := VB.open
    have Bo := B
    clear s_VR f_VR z_VR s_VB f_VB z_VB
    have OL8 := fun b hb => (O8.lt b hb).1
    have HB9 := VB.1
    have HTB := Hid.mk VB.there
    have VB9 := VB.filled [.int .i64 pc, .int .i64 pk, .slice c8 l8 d8] rfl
    have VR9 := VR.apart (B := w62.heap.size) (by first | omega | (simp; omega)) 0 [.int .i64 pc, .int .i64 pk, .slice c8 l8 d8]
    have B9 := belowCells B (show w.heap.size ≤ w62.heap.size by first | omega | (simp; done) | (simp; omega)) 0 [.int .i64 pc, .int .i64 pk, .slice c8 l8 d8]
    have O9 := O8.apart (B := w62.heap.size) (by intro b hb; have := OL8 b hb; have := hVBz.out; omega) 0 [.int .i64 pc, .int .i64 pk, .slice c8 l8 d8]
    obtain ⟨w9, hw9⟩ : ∃ w9, World.setCells w63 (w62.heap.size) 0 [.int .i64 pc, .int .i64 pk, .slice c8 l8 d8] = w9 := ⟨_, rfl⟩
    rw [hw9] at VB9 VR9 B9 O9
    replace hw9 := Hid.mk hw9
    clear OL8 O8 ha hr Bo
    replace VB := Hid.mk VB
    replace VR := Hid.mk VR
    replace B := Hid.mk B
    obtain ⟨s_VB, f_VB, z_VB⟩ := VB.out.open
    obtain ⟨s_VR, f_VR, z_VR⟩ := VR.out.open
    go_upto_region 10 with (refine wpList_stroke w9 rfl 28 _ _ rfl (w62.heap.size) 0 #[.int .i64 pc, .int .i64 pk, .slice c8 l8 d8] rfl rfl HTB.out (by kernel_rfl) (by kernel_rfl) hw9.out ?_)
    clear s_VB f_VB z_VB s_VR f_VR z_VR VB VR B
    have VB := VB9
    have VR := VR9
    have B := B9
    have O := O9
    clear VB9 VR9 B9 O9
    skip
    have VF := Hid.mk (VR.filled [.int .i64 pc, .int .i64 pk, .slice c8 l8 d8] rfl)
    have HT := Hid.mk VR.there
    have BR := belowCells B (show w.heap.size ≤ w.heap.size by (first | omega | (simp; done) | (simp; omega))) 0 [.int .i64 pc, .int .i64 pk, .slice c8 l8 d8]
    replace BR := Hid.mk BR
    have HO := Hid.mk ((O.mono (show w.heap.size ≤ _ by have := hVRz.out; omega)).apart (B := w.heap.size) (by intro b hb; have := (O.lt b hb).1; have := hVRz.out; omega) 0 [.int .i64 pc, .int .i64 pk, .slice c8 l8 d8])
    obtain ⟨s_VR, f_VR, z_VR⟩ := VR.open
    obtain ⟨s_VB, f_VB, z_VB⟩ := VB.open
    go_wp2_with (refine wpList_store_mid rfl 28 _ _ rfl (w.heap.size) 0 #[.int .i64 pc, .int .i64 pk, .slice c8 l8 d8] rfl rfl HT.out (by kernel_rfl) (by kernel_rfl) ?_)
    refine bodyPost_ret (v := .agg #[.int .i64 pc, .int .i64 pk, .slice c8 l8 d8]) (results_row Tryz.results7 _ _ (w.heap.size) [.int .i64 pc, .int .i64 pk, .slice c8 l8 d8] _ rfl VF.out Tryz.underlying28 rfl (by kernel_rfl)) rfl ⟨c8, d8, rfl, HO.out, BR.out⟩

end Go.Proofs.YtfldgeokigcokaaGreat
