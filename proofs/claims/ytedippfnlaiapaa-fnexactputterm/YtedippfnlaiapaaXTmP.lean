/- The law on 'PutTerm': its walk. -/
import Derived.Test.YtedippfnlaiapaaTmT
import Derived.Test.YtedippfnlaiapaaTmR
import Derived.Deep.DeepCutAuto
namespace Go.Proofs.Ytedippfnlaiapaa
open Go.RowKit

theorem pt_len (xs : List T4) (t : T4) : (ptT xs t).l.length ≤ 400 := by
  rcases pt_ways xs t with ⟨_, h⟩ | ⟨h1, h⟩
  · rw [h]; exact Nat.zero_le _
  · rw [h]; exact put_len (tfC_zero h1).1

set_option maxRecDepth 20000 in
set_option maxHeartbeats 8000000 in
theorem xTmP_walk (aa : Option Addr) (na ca : Nat) (xsa : List T4) (x : T4) (w : World) (hRa : RdTerm w aa xsa) (hna : xsa.length = na) (hxa : na ≤ maxLen) (hok : ∀ t ∈ xsa, okT t) (ox : okT x) :
    Calls Try.prog 5 #[.slice aa na ca, .agg #[.int .i64 x.o, .int .i64 x.a, .int .i64 x.b, .int .i64 x.n]] w fun e w' => e = .returned (.bool true) ∧ Below w.heap.size w w' := by
  by_cases hba : (na : Int) ≤ 1048576
  · skip
    have h0a : (0 : Int) ≤ (1048576 - (na : Int)) := by omega
    have CTa := Hid.mk (fun w h => toTermS_ok aa na ca xsa w h hna (by omega))
    have CEa := Hid.mk (fun c c' d d' w h h' => eqTermS_ok c c' na d d' xsa w h h' hna hxa)
    have CS := Hid.mk (fun c w h => specPutTerm_ok c na na xsa x w h hna (by omega) (Nat.le_refl _))
    have CI := Hid.mk (fun c d w h => implPutTerm_ok c na d xsa x w h hna (by omega) hok ox)
    have hm4 := pt_len xsa x
    generalize ptT xsa x = P at *
    obtain ⟨kc, kk, ls⟩ := P
    simp only at *
    obtain ⟨kl, hkl0⟩ : ∃ m, ls.length = m := ⟨_, rfl⟩
    rw [hkl0] at CS CI hm4
    have hkl : kl ≤ maxLen := by unfold maxLen; omega
    have HK := Hid.mk hkl0
    clear hkl0
    have CMa := Hid.mk (fun c d base w h => markTermS_ok c na d base xsa 1 w h hna (by omega) (by omega))
    have hmk : ¬ (1 + 4 * (na : Int)) < 0 := by omega
    have HBa := Hid.mk hba
    clear hba hna
    go_enter Try.func5, Try.ntmps5
    have B := Below.refl w.heap.size w
    have HWa := Hid.mk hRa
    replace hRa := hRa.kept (belowA w (.cells #[.int .i64 x.o, .int .i64 x.a, .int .i64 x.b, .int .i64 x.n] 38))
    replace B := thenB B (belowA w (.cells #[.int .i64 x.o, .int .i64 x.a, .int .i64 x.b, .int .i64 x.n] 38))
    have VAx := V.new w [.int .i64 x.o, .int .i64 x.a, .int .i64 x.b, .int .i64 x.n] 38
    obtain ⟨s_VAx, f_VAx, z_VAx⟩ := VAx.open
    have Bo := B
    go_wp2_with fail
    refine (szTermS_in aa na ca 1048576 _ HBa.out (by omega)).mono ?_
    rintro e w ⟨rfl, rfl⟩
    have HR0a := Hid.mk hRa
    have K : ∀ w' : World, Below (w.alloc (.cells #[.int .i64 x.o, .int .i64 x.a, .int .i64 x.b, .int .i64 x.n] 38)).heap.size (w.alloc (.cells #[.int .i64 x.o, .int .i64 x.a, .int .i64 x.b, .int .i64 x.n] 38)) w' → (w'.cell? ⟨w.heap.size, 0, none⟩ = some (.int .i64 x.o) ∧ w'.cell? ⟨w.heap.size, 1, none⟩ = some (.int .i64 x.a) ∧ w'.cell? ⟨w.heap.size, 2, none⟩ = some (.int .i64 x.b) ∧ w'.cell? ⟨w.heap.size, 3, none⟩ = some (.int .i64 x.n)) := fun w' h => ⟨(VAx.kept h).2.1 0 (by simp), (VAx.kept h).2.1 1 (by simp), (VAx.kept h).2.1 2 (by simp), (VAx.kept h).2.1 3 (by simp)⟩
    have K := Hid.mk K
    have HR1 := Hid.mk hRa
    go_upto_region 5 with fail
    clear s_VAx f_VAx z_VAx
    go_cut [6] (fun p wx => ∃ (P : Nat) (cw : Option Addr) (dw : Nat), p = .pointer (some ⟨P, 0, none⟩) ∧ V wx P [.int .i64 kc, .int .i64 kk, .slice cw kl dw] ∧ OwnTerm wx (w.heap.size + 1) cw dw ls ∧ Below (w.alloc (.cells #[.int .i64 x.o, .int .i64 x.a, .int .i64 x.b, .int .i64 x.n] 38)).heap.size (w.alloc (.cells #[.int .i64 x.o, .int .i64 x.a, .int .i64 x.b, .int .i64 x.n] 38)) wx ∧ w.heap.size + 1 ≤ P ∧ Hid (∀ b : Addr, cw = some b → b.block ≠ P))
    case first =>
      clear VAx hRa
      refine wp_region_held_drew (S := (fun w' => w'.cell? ⟨w.heap.size, 0, none⟩ = some (.int .i64 x.o) ∧ w'.cell? ⟨w.heap.size, 1, none⟩ = some (.int .i64 x.a) ∧ w'.cell? ⟨w.heap.size, 2, none⟩ = some (.int .i64 x.b) ∧ w'.cell? ⟨w.heap.size, 3, none⟩ = some (.int .i64 x.n))) (by kernel_rfl) (K.out _ (Below.refl _ _).drew) (fun hHeld => ?_)
      have bd : Below (w.alloc (.cells #[.int .i64 x.o, .int .i64 x.a, .int .i64 x.b, .int .i64 x.n] 38)).heap.size (w.alloc (.cells #[.int .i64 x.o, .int .i64 x.a, .int .i64 x.b, .int .i64 x.n] 38)) (w.alloc (.cells #[.int .i64 x.o, .int .i64 x.a, .int .i64 x.b, .int .i64 x.n] 38)).drew := (Below.refl _ _).drew
      have hsd : w.heap.size + 1 ≤ (w.alloc (.cells #[.int .i64 x.o, .int .i64 x.a, .int .i64 x.b, .int .i64 x.n] 38)).drew.heap.size := by have := bd.size; (try simp only [World.size_alloc] at this); omega
      generalize (w.alloc (.cells #[.int .i64 x.o, .int .i64 x.a, .int .i64 x.b, .int .i64 x.n] 38)).drew = wd at *
      refine wpAnyH_take (i := 0) (oi := _) (v := ?vpt5_0) rfl (by kernel_rfl) (by kernel_rfl) (by kernel_rfl) (fun _ _ _ h => h) (Or.inl ⟨by rfl, ?hypt5_0⟩) hHeld ?restpt5_0
      case hypt5_0 => (intro w hSw; (try dsimp only at hSw); go_simp; first | done | with_reducible rfl)
      try simp only [Act.put, List.getElem_toArray, List.getElem_cons_zero, List.setIfInBounds_toArray, List.set_cons_zero, List.set_cons_succ]
      refine wpAnyH_take (i := 2) (oi := _) (v := ?vpt5_2) rfl (by kernel_rfl) (by kernel_rfl) (by kernel_rfl) (fun _ _ _ h => h) (Or.inl ⟨by rfl, ?hypt5_2⟩) hHeld ?restpt5_2
      case hypt5_2 => (intro w hSw; (try dsimp only at hSw); go_simp; first | done | with_reducible rfl)
      try simp only [Act.put, List.getElem_toArray, List.getElem_cons_zero, List.getElem_cons_succ, List.setIfInBounds_toArray, List.set_cons_zero, List.set_cons_succ]
      refine wpAnyH_ready (rs := [1, 5]) (by kernel_rfl) (by simp) ?_
      refine AllReadyH.cons (o := _) rfl (fun K0 hK0 => ?_) (AllReadyH.cons (o := _) rfl (fun K0 hK0 => ?_) AllReadyH.nil)
      · skip
        go_simp
        go_at_call 20
        refine (CTa.out _ (HR1.out.kept bd)).mono ?_
        rintro e w_1 ⟨rfl, oR, b_1⟩
        have hsz1 := b_1.size
        refine hK0.out _ _ (K.out _ (thenB bd b_1)) (fun hHeld => ?_)
        clear hK0 K0
        try simp only [Act.put, List.getElem_toArray, List.getElem_cons_zero, List.getElem_cons_succ, List.setIfInBounds_toArray, List.set_cons_zero, List.set_cons_succ]
        refine wpAnyH_ready (rs := [3, 5]) (by kernel_rfl) (by simp) ?_
        refine AllReadyH.cons (o := _) rfl (fun K0 hK0 => ?_) (AllReadyH.cons (o := _) rfl (fun K0 hK0 => ?_) AllReadyH.nil)
        · skip
          go_simp
          go_at_call 22
          refine (toTerm_ok x _).mono ?_
          rintro e w_2 ⟨rfl, b_2⟩
          have hsz2 := b_2.size
          replace oR := oR.kept b_2
          refine hK0.out _ _ (K.out _ (thenB (thenB bd b_1) b_2)) (fun hHeld => ?_)
          clear hK0 K0
          try simp only [Act.put, List.getElem_toArray, List.getElem_cons_zero, List.getElem_cons_succ, List.setIfInBounds_toArray, List.set_cons_zero, List.set_cons_succ]
          refine wpAnyH_ready (rs := [4, 5]) (by kernel_rfl) (by simp) ?_
          refine AllReadyH.cons (o := _) rfl (fun K0 hK0 => ?_) (AllReadyH.cons (o := _) rfl (fun K0 hK0 => ?_) AllReadyH.nil)
          · skip
            go_simp
            go_at_call 16
            refine (CS.out _ _ oR.rd (fun h => by cases h)).mono ?_
            rintro e w_3 ⟨cw, dw, rfl, oW, b_3⟩
            have hsz3 := b_3.size
            have lW0 := oW.lt
            have lW := Hid.mk lW0
            clear lW0
            replace oW := oW.mono (base' := w.heap.size + 1) (by omega)
            refine hK0.out _ _ (K.out _ (thenB (thenB (thenB bd b_1) b_2) b_3)) (fun hHeld => ?_)
            clear hK0 K0
            try simp only [Act.put, List.getElem_toArray, List.getElem_cons_zero, List.getElem_cons_succ, List.setIfInBounds_toArray, List.set_cons_zero, List.set_cons_succ]
            refine wpAnyH_ready (rs := [5]) (by kernel_rfl) (by simp) ?_
            refine AllReadyH.cons (o := _) rfl (fun K0 hK0 => ?_) AllReadyH.nil
            go_simp
            refine hK0.out _ _ (K.out _ (thenB (thenB (thenB (thenB bd b_1) b_2) b_3) (belowA w_3 (.cells #[.int .i64 0, .int .i64 0, .slice none 0 0] 30)))) (fun hHeld => ?_)
            clear hK0 K0
            try simp only [Act.put, List.getElem_toArray, List.getElem_cons_zero, List.getElem_cons_succ, List.setIfInBounds_toArray, List.set_cons_zero, List.set_cons_succ]
            have VN : V (w_3.alloc (.cells #[.int .i64 0, .int .i64 0, .slice none 0 0] 30)) w_3.heap.size [.int .i64 0, .int .i64 0, .slice none 0 0] := V.new _ _ _
            have bq4 := belowA w_3 (.cells #[.int .i64 0, .int .i64 0, .slice none 0 0] 30)
            have hsz4 := bq4.size
            replace oW := oW.kept bq4
            have hPQ : Hid ((w.alloc (.cells #[.int .i64 x.o, .int .i64 x.a, .int .i64 x.b, .int .i64 x.n] 38)).heap.size ≤ w_3.heap.size) := Hid.mk ((thenB (thenB (thenB bd b_1) b_2) b_3)).size
            have hP1 : w.heap.size + 1 ≤ w_3.heap.size := by omega
            have hPW : Hid (∀ b : Addr, cw = some b → b.block ≠ w_3.heap.size) := Hid.mk (fun b hb => by have := (lW.out b hb).2; omega)
            obtain ⟨P, hP⟩ : ∃ P, w_3.heap.size = P := ⟨_, rfl⟩
            rw [hP] at VN hPQ hP1 hPW
            have hPl : P < (w_3.alloc (.cells #[.int .i64 0, .int .i64 0, .slice none 0 0] 30)).heap.size := VN.1
            generalize hgw : w_3.alloc (.cells #[.int .i64 0, .int .i64 0, .slice none 0 0] 30) = wq4 at *
            clear hgw
            try rw [hP]
            clear hP
            refine wpAnyH_ready (rs := [6]) (by kernel_rfl) (by simp) ?_
            refine AllReadyH.cons (o := _) rfl (fun K0 hK0 => ?_) AllReadyH.nil
            rw [if_pos (by rfl)]
            have hT := VN.there
            have VF := VN.filled [.int .i64 kc, .int .i64 kk, .slice cw kl dw] rfl
            have bF := belowCells (thenB (thenB (thenB (thenB bd b_1) b_2) b_3) bq4) hPQ.out 0 [.int .i64 kc, .int .i64 kk, .slice cw kl dw]
            have OF := oW.apart hPW.out 0 [.int .i64 kc, .int .i64 kk, .slice cw kl dw]
            refine wp_store_mid _ _ _ rfl P 0 #[.int .i64 kc, .int .i64 kk, .slice cw kl dw] rfl rfl hT (by kernel_rfl) (by kernel_rfl) ?_
            refine hK0.out _ _ (K.out _ bF) (fun hHeld => ?_)
            clear hK0 K0
            refine wpAnyH_done (by kernel_rfl) ?_ _
            go_wp2_with fail
            go_meet
            exact ⟨P, cw, dw, rfl, VF, OF, bF, by omega, hPW⟩
          · skip
            go_simp
            refine hK0.out _ _ (K.out _ (thenB (thenB (thenB bd b_1) b_2) (belowA w_2 (.cells #[.int .i64 0, .int .i64 0, .slice none 0 0] 30)))) (fun hHeld => ?_)
            clear hK0 K0
            try simp only [Act.put, List.getElem_toArray, List.getElem_cons_zero, List.getElem_cons_succ, List.setIfInBounds_toArray, List.set_cons_zero, List.set_cons_succ]
            have VN : V (w_2.alloc (.cells #[.int .i64 0, .int .i64 0, .slice none 0 0] 30)) w_2.heap.size [.int .i64 0, .int .i64 0, .slice none 0 0] := V.new _ _ _
            have bq5 := belowA w_2 (.cells #[.int .i64 0, .int .i64 0, .slice none 0 0] 30)
            have hsz5 := bq5.size
            replace oR := oR.kept bq5
            have hPQ : Hid ((w.alloc (.cells #[.int .i64 x.o, .int .i64 x.a, .int .i64 x.b, .int .i64 x.n] 38)).heap.size ≤ w_2.heap.size) := Hid.mk ((thenB (thenB bd b_1) b_2)).size
            have hP1 : w.heap.size + 1 ≤ w_2.heap.size := by omega
            obtain ⟨P, hP⟩ : ∃ P, w_2.heap.size = P := ⟨_, rfl⟩
            rw [hP] at VN hPQ hP1
            have hPl : P < (w_2.alloc (.cells #[.int .i64 0, .int .i64 0, .slice none 0 0] 30)).heap.size := VN.1
            generalize hgw : w_2.alloc (.cells #[.int .i64 0, .int .i64 0, .slice none 0 0] 30) = wq5 at *
            clear hgw
            try rw [hP]
            clear hP
            refine wpAnyH_ready (rs := [4]) (by kernel_rfl) (by simp) ?_
            refine AllReadyH.cons (o := _) rfl (fun K0 hK0 => ?_) AllReadyH.nil
            go_simp
            go_at_call 16
            have VNl := Hid.mk VN.1
            refine (CS.out _ _ oR.rd (fun h => by cases h)).mono ?_
            rintro e w_6 ⟨cw, dw, rfl, oW, b_6⟩
            have hsz6 := b_6.size
            replace VN := VN.kept b_6
            have lW0 := oW.lt
            have lW := Hid.mk lW0
            clear lW0
            have hPW : Hid (∀ b : Addr, cw = some b → b.block ≠ P) := Hid.mk (fun b hb => by have := (lW.out b hb).1; have := VNl.out; omega)
            replace oW := oW.mono (base' := w.heap.size + 1) (by omega)
            refine hK0.out _ _ (K.out _ (thenB (thenB (thenB (thenB bd b_1) b_2) bq5) b_6)) (fun hHeld => ?_)
            clear hK0 K0
            try simp only [Act.put, List.getElem_toArray, List.getElem_cons_zero, List.getElem_cons_succ, List.setIfInBounds_toArray, List.set_cons_zero, List.set_cons_succ]
            refine wpAnyH_ready (rs := [6]) (by kernel_rfl) (by simp) ?_
            refine AllReadyH.cons (o := _) rfl (fun K0 hK0 => ?_) AllReadyH.nil
            rw [if_pos (by rfl)]
            have hT := VN.there
            have VF := VN.filled [.int .i64 kc, .int .i64 kk, .slice cw kl dw] rfl
            have bF := belowCells (thenB (thenB (thenB (thenB bd b_1) b_2) bq5) b_6) hPQ.out 0 [.int .i64 kc, .int .i64 kk, .slice cw kl dw]
            have OF := oW.apart hPW.out 0 [.int .i64 kc, .int .i64 kk, .slice cw kl dw]
            refine wp_store_mid _ _ _ rfl P 0 #[.int .i64 kc, .int .i64 kk, .slice cw kl dw] rfl rfl hT (by kernel_rfl) (by kernel_rfl) ?_
            refine hK0.out _ _ (K.out _ bF) (fun hHeld => ?_)
            clear hK0 K0
            refine wpAnyH_done (by kernel_rfl) ?_ _
            go_wp2_with fail
            go_meet
            exact ⟨P, cw, dw, rfl, VF, OF, bF, by omega, hPW⟩
        · skip
          go_simp
          refine hK0.out _ _ (K.out _ (thenB (thenB bd b_1) (belowA w_1 (.cells #[.int .i64 0, .int .i64 0, .slice none 0 0] 30)))) (fun hHeld => ?_)
          clear hK0 K0
          try simp only [Act.put, List.getElem_toArray, List.getElem_cons_zero, List.getElem_cons_succ, List.setIfInBounds_toArray, List.set_cons_zero, List.set_cons_succ]
          have VN : V (w_1.alloc (.cells #[.int .i64 0, .int .i64 0, .slice none 0 0] 30)) w_1.heap.size [.int .i64 0, .int .i64 0, .slice none 0 0] := V.new _ _ _
          have bq7 := belowA w_1 (.cells #[.int .i64 0, .int .i64 0, .slice none 0 0] 30)
          have hsz7 := bq7.size
          replace oR := oR.kept bq7
          have hPQ : Hid ((w.alloc (.cells #[.int .i64 x.o, .int .i64 x.a, .int .i64 x.b, .int .i64 x.n] 38)).heap.size ≤ w_1.heap.size) := Hid.mk ((thenB bd b_1)).size
          have hP1 : w.heap.size + 1 ≤ w_1.heap.size := by omega
          obtain ⟨P, hP⟩ : ∃ P, w_1.heap.size = P := ⟨_, rfl⟩
          rw [hP] at VN hPQ hP1
          have hPl : P < (w_1.alloc (.cells #[.int .i64 0, .int .i64 0, .slice none 0 0] 30)).heap.size := VN.1
          generalize hgw : w_1.alloc (.cells #[.int .i64 0, .int .i64 0, .slice none 0 0] 30) = wq7 at *
          clear hgw
          try rw [hP]
          clear hP
          refine wpAnyH_ready (rs := [3]) (by kernel_rfl) (by simp) ?_
          refine AllReadyH.cons (o := _) rfl (fun K0 hK0 => ?_) AllReadyH.nil
          go_simp
          go_at_call 22
          refine (toTerm_ok x _).mono ?_
          rintro e w_8 ⟨rfl, b_8⟩
          have hsz8 := b_8.size
          replace VN := VN.kept b_8
          replace oR := oR.kept b_8
          refine hK0.out _ _ (K.out _ (thenB (thenB (thenB bd b_1) bq7) b_8)) (fun hHeld => ?_)
          clear hK0 K0
          try simp only [Act.put, List.getElem_toArray, List.getElem_cons_zero, List.getElem_cons_succ, List.setIfInBounds_toArray, List.set_cons_zero, List.set_cons_succ]
          refine wpAnyH_ready (rs := [4]) (by kernel_rfl) (by simp) ?_
          refine AllReadyH.cons (o := _) rfl (fun K0 hK0 => ?_) AllReadyH.nil
          go_simp
          go_at_call 16
          have VNl := Hid.mk VN.1
          refine (CS.out _ _ oR.rd (fun h => by cases h)).mono ?_
          rintro e w_9 ⟨cw, dw, rfl, oW, b_9⟩
          have hsz9 := b_9.size
          replace VN := VN.kept b_9
          have lW0 := oW.lt
          have lW := Hid.mk lW0
          clear lW0
          have hPW : Hid (∀ b : Addr, cw = some b → b.block ≠ P) := Hid.mk (fun b hb => by have := (lW.out b hb).1; have := VNl.out; omega)
          replace oW := oW.mono (base' := w.heap.size + 1) (by omega)
          refine hK0.out _ _ (K.out _ (thenB (thenB (thenB (thenB bd b_1) bq7) b_8) b_9)) (fun hHeld => ?_)
          clear hK0 K0
          try simp only [Act.put, List.getElem_toArray, List.getElem_cons_zero, List.getElem_cons_succ, List.setIfInBounds_toArray, List.set_cons_zero, List.set_cons_succ]
          refine wpAnyH_ready (rs := [6]) (by kernel_rfl) (by simp) ?_
          refine AllReadyH.cons (o := _) rfl (fun K0 hK0 => ?_) AllReadyH.nil
          rw [if_pos (by rfl)]
          have hT := VN.there
          have VF := VN.filled [.int .i64 kc, .int .i64 kk, .slice cw kl dw] rfl
          have bF := belowCells (thenB (thenB (thenB (thenB bd b_1) bq7) b_8) b_9) hPQ.out 0 [.int .i64 kc, .int .i64 kk, .slice cw kl dw]
          have OF := oW.apart hPW.out 0 [.int .i64 kc, .int .i64 kk, .slice cw kl dw]
          refine wp_store_mid _ _ _ rfl P 0 #[.int .i64 kc, .int .i64 kk, .slice cw kl dw] rfl rfl hT (by kernel_rfl) (by kernel_rfl) ?_
          refine hK0.out _ _ (K.out _ bF) (fun hHeld => ?_)
          clear hK0 K0
          refine wpAnyH_done (by kernel_rfl) ?_ _
          go_wp2_with fail
          go_meet
          exact ⟨P, cw, dw, rfl, VF, OF, bF, by omega, hPW⟩
      · skip
        go_simp
        refine hK0.out _ _ (K.out _ (thenB bd (belowA wd (.cells #[.int .i64 0, .int .i64 0, .slice none 0 0] 30)))) (fun hHeld => ?_)
        clear hK0 K0
        try simp only [Act.put, List.getElem_toArray, List.getElem_cons_zero, List.getElem_cons_succ, List.setIfInBounds_toArray, List.set_cons_zero, List.set_cons_succ]
        have VN : V (wd.alloc (.cells #[.int .i64 0, .int .i64 0, .slice none 0 0] 30)) wd.heap.size [.int .i64 0, .int .i64 0, .slice none 0 0] := V.new _ _ _
        have bq10 := belowA wd (.cells #[.int .i64 0, .int .i64 0, .slice none 0 0] 30)
        have hsz10 := bq10.size
        have hPQ : Hid ((w.alloc (.cells #[.int .i64 x.o, .int .i64 x.a, .int .i64 x.b, .int .i64 x.n] 38)).heap.size ≤ wd.heap.size) := Hid.mk (bd).size
        have hP1 : w.heap.size + 1 ≤ wd.heap.size := by omega
        obtain ⟨P, hP⟩ : ∃ P, wd.heap.size = P := ⟨_, rfl⟩
        rw [hP] at VN hPQ hP1
        have hPl : P < (wd.alloc (.cells #[.int .i64 0, .int .i64 0, .slice none 0 0] 30)).heap.size := VN.1
        generalize hgw : wd.alloc (.cells #[.int .i64 0, .int .i64 0, .slice none 0 0] 30) = wq10 at *
        clear hgw
        try rw [hP]
        clear hP
        refine wpAnyH_ready (rs := [1]) (by kernel_rfl) (by simp) ?_
        refine AllReadyH.cons (o := _) rfl (fun K0 hK0 => ?_) AllReadyH.nil
        go_simp
        go_at_call 20
        refine (CTa.out _ (HR1.out.kept (thenB bd bq10))).mono ?_
        rintro e w_11 ⟨rfl, oR, b_11⟩
        have hsz11 := b_11.size
        replace VN := VN.kept b_11
        refine hK0.out _ _ (K.out _ (thenB (thenB bd bq10) b_11)) (fun hHeld => ?_)
        clear hK0 K0
        try simp only [Act.put, List.getElem_toArray, List.getElem_cons_zero, List.getElem_cons_succ, List.setIfInBounds_toArray, List.set_cons_zero, List.set_cons_succ]
        refine wpAnyH_ready (rs := [3]) (by kernel_rfl) (by simp) ?_
        refine AllReadyH.cons (o := _) rfl (fun K0 hK0 => ?_) AllReadyH.nil
        go_simp
        go_at_call 22
        refine (toTerm_ok x _).mono ?_
        rintro e w_12 ⟨rfl, b_12⟩
        have hsz12 := b_12.size
        replace VN := VN.kept b_12
        replace oR := oR.kept b_12
        refine hK0.out _ _ (K.out _ (thenB (thenB (thenB bd bq10) b_11) b_12)) (fun hHeld => ?_)
        clear hK0 K0
        try simp only [Act.put, List.getElem_toArray, List.getElem_cons_zero, List.getElem_cons_succ, List.setIfInBounds_toArray, List.set_cons_zero, List.set_cons_succ]
        refine wpAnyH_ready (rs := [4]) (by kernel_rfl) (by simp) ?_
        refine AllReadyH.cons (o := _) rfl (fun K0 hK0 => ?_) AllReadyH.nil
        go_simp
        go_at_call 16
        have VNl := Hid.mk VN.1
        refine (CS.out _ _ oR.rd (fun h => by cases h)).mono ?_
        rintro e w_13 ⟨cw, dw, rfl, oW, b_13⟩
        have hsz13 := b_13.size
        replace VN := VN.kept b_13
        have lW0 := oW.lt
        have lW := Hid.mk lW0
        clear lW0
        have hPW : Hid (∀ b : Addr, cw = some b → b.block ≠ P) := Hid.mk (fun b hb => by have := (lW.out b hb).1; have := VNl.out; omega)
        replace oW := oW.mono (base' := w.heap.size + 1) (by omega)
        refine hK0.out _ _ (K.out _ (thenB (thenB (thenB (thenB bd bq10) b_11) b_12) b_13)) (fun hHeld => ?_)
        clear hK0 K0
        try simp only [Act.put, List.getElem_toArray, List.getElem_cons_zero, List.getElem_cons_succ, List.setIfInBounds_toArray, List.set_cons_zero, List.set_cons_succ]
        refine wpAnyH_ready (rs := [6]) (by kernel_rfl) (by simp) ?_
        refine AllReadyH.cons (o := _) rfl (fun K0 hK0 => ?_) AllReadyH.nil
        rw [if_pos (by rfl)]
        have hT := VN.there
        have VF := VN.filled [.int .i64 kc, .int .i64 kk, .slice cw kl dw] rfl
        have bF := belowCells (thenB (thenB (thenB (thenB bd bq10) b_11) b_12) b_13) hPQ.out 0 [.int .i64 kc, .int .i64 kk, .slice cw kl dw]
        have OF := oW.apart hPW.out 0 [.int .i64 kc, .int .i64 kk, .slice cw kl dw]
        refine wp_store_mid _ _ _ rfl P 0 #[.int .i64 kc, .int .i64 kk, .slice cw kl dw] rfl rfl hT (by kernel_rfl) (by kernel_rfl) ?_
        refine hK0.out _ _ (K.out _ bF) (fun hHeld => ?_)
        clear hK0 K0
        refine wpAnyH_done (by kernel_rfl) ?_ _
        go_wp2_with fail
        go_meet
        exact ⟨P, cw, dw, rfl, VF, OF, bF, by omega, hPW⟩
    case rest =>
      clear K
      obtain ⟨P, cw, dw, rfl, VW, ow, BQ, hPP, hPwP⟩ := hcut
      replace VAx := VAx.kept BQ
      replace hRa := hRa.kept BQ
      replace B := thenB B BQ
      have SQP := BQ.size
      try simp only [World.size_alloc] at SQP
      clear BQ HR1
      generalize hgz : wc = wz5 at *
      clear hgz
      have hlw := ow.lt
      have L_ow : ∀ b : Addr, cw = some b → w.heap.size + 1 ≤ b.block ∧ b.block < wz5.heap.size := fun b hb => hlw b hb
      have hPvP := VW.1
      clear hlw
      obtain ⟨s_VAx, f_VAx, z_VAx⟩ := VAx.open
      obtain ⟨s_VW, f_VW, z_VW⟩ := VW.open
      have Bo := B
      go_wp2_with fail
      refine (CTa.out _ hRa).mono ?_
      rintro e w1 ⟨rfl, qa, b1⟩
      clear s_VAx f_VAx z_VAx s_VW f_VW z_VW
      have S1 := b1.size
      replace VAx := VAx.kept b1
      replace VW := VW.kept b1
      replace hRa := hRa.kept b1
      replace ow := ow.kept b1
      replace B := thenB B b1
      clear b1
      obtain ⟨s_VAx, f_VAx, z_VAx⟩ := VAx.open
      obtain ⟨s_VW, f_VW, z_VW⟩ := VW.open
      have Bo := B
      have L_qa : ∀ b : Addr, (some ⟨wz5.heap.size, 0, none⟩) = some b → wz5.heap.size ≤ b.block ∧ b.block < w1.heap.size := fun b hb => by have h := qa.lt b hb; (try simp only [World.size_alloc] at h); omega
      go_wp2_with fail
      refine (toTerm_ok x _).mono ?_
      rintro e w2 ⟨rfl, b2⟩
      clear s_VAx f_VAx z_VAx s_VW f_VW z_VW
      have S2 := b2.size
      replace VAx := VAx.kept b2
      replace VW := VW.kept b2
      replace hRa := hRa.kept b2
      replace ow := ow.kept b2
      replace qa := qa.kept b2
      replace B := thenB B b2
      clear b2
      obtain ⟨s_VAx, f_VAx, z_VAx⟩ := VAx.open
      obtain ⟨s_VW, f_VW, z_VW⟩ := VW.open
      have Bo := B
      go_wp2_with fail
      refine (CI.out _ _ _ qa.rd).mono ?_
      rintro e w3 ⟨cg, dg, rfl, og, b3⟩
      clear s_VAx f_VAx z_VAx s_VW f_VW z_VW
      have S3 := b3.size
      replace VAx := VAx.kept b3
      replace VW := VW.kept b3
      replace hRa := hRa.kept b3
      replace ow := ow.kept b3
      replace qa := qa.kept b3
      replace B := thenB B b3
      clear b3
      obtain ⟨s_VAx, f_VAx, z_VAx⟩ := VAx.open
      obtain ⟨s_VW, f_VW, z_VW⟩ := VW.open
      have Bo := B
      have L_og : ∀ b : Addr, cg = some b → w2.heap.size ≤ b.block ∧ b.block < w3.heap.size := fun b hb => by have h := og.lt b hb; (try simp only [World.size_alloc] at h); omega
      replace VAx := VAx.kept (belowA w3 (.cells #[.int .i64 kc, .int .i64 kk, .slice cg kl dg] 30))
      replace VW := VW.kept (belowA w3 (.cells #[.int .i64 kc, .int .i64 kk, .slice cg kl dg] 30))
      replace hRa := hRa.kept (belowA w3 (.cells #[.int .i64 kc, .int .i64 kk, .slice cg kl dg] 30))
      replace ow := ow.kept (belowA w3 (.cells #[.int .i64 kc, .int .i64 kk, .slice cg kl dg] 30))
      replace qa := qa.kept (belowA w3 (.cells #[.int .i64 kc, .int .i64 kk, .slice cg kl dg] 30))
      replace og := og.kept (belowA w3 (.cells #[.int .i64 kc, .int .i64 kk, .slice cg kl dg] 30))
      replace B := thenB B (belowA w3 (.cells #[.int .i64 kc, .int .i64 kk, .slice cg kl dg] 30))
      have VG := V.new w3 [.int .i64 kc, .int .i64 kk, .slice cg kl dg] 30
      clear s_VAx f_VAx z_VAx s_VW f_VW z_VW
      obtain ⟨s_VAx, f_VAx, z_VAx⟩ := VAx.open
      obtain ⟨s_VW, f_VW, z_VW⟩ := VW.open
      obtain ⟨s_VG, f_VG, z_VG⟩ := VG.open
      have Bo := B
      go_wp2_with fail
      refine (eqTermResult_ok kc kk cg cw kl dg dw ls _ og.rd ow.rd HK.out hkl).mono ?_
      rintro e w4 ⟨rfl, b4⟩
      clear s_VAx f_VAx z_VAx s_VW f_VW z_VW s_VG f_VG z_VG
      have S4 := b4.size
      simp only [World.size_alloc] at S4
      replace VAx := VAx.kept b4
      replace VW := VW.kept b4
      replace VG := VG.kept b4
      replace hRa := hRa.kept b4
      replace ow := ow.kept b4
      replace qa := qa.kept b4
      replace og := og.kept b4
      replace B := thenB B b4
      clear b4
      obtain ⟨s_VAx, f_VAx, z_VAx⟩ := VAx.open
      obtain ⟨s_VW, f_VW, z_VW⟩ := VW.open
      obtain ⟨s_VG, f_VG, z_VG⟩ := VG.open
      have Bo := B
      go_wp2_with fail
      refine (CTa.out _ hRa).mono ?_
      rintro e w5 ⟨rfl, ra, b5⟩
      clear s_VAx f_VAx z_VAx s_VW f_VW z_VW s_VG f_VG z_VG
      have S5 := b5.size
      replace VAx := VAx.kept b5
      replace VW := VW.kept b5
      replace VG := VG.kept b5
      replace hRa := hRa.kept b5
      replace ow := ow.kept b5
      replace qa := qa.kept b5
      replace og := og.kept b5
      replace B := thenB B b5
      clear b5
      obtain ⟨s_VAx, f_VAx, z_VAx⟩ := VAx.open
      obtain ⟨s_VW, f_VW, z_VW⟩ := VW.open
      obtain ⟨s_VG, f_VG, z_VG⟩ := VG.open
      have Bo := B
      have L_ra : ∀ b : Addr, (some ⟨w4.heap.size, 0, none⟩) = some b → w4.heap.size ≤ b.block ∧ b.block < w5.heap.size := fun b hb => by have h := ra.lt b hb; (try simp only [World.size_alloc] at h); omega
      go_wp2_with fail
      refine (CEa.out _ _ _ _ _ qa.rd ra.rd).mono ?_
      rintro e w6 ⟨rfl, b6⟩
      clear s_VAx f_VAx z_VAx s_VW f_VW z_VW s_VG f_VG z_VG
      have S6 := b6.size
      replace VAx := VAx.kept b6
      replace VW := VW.kept b6
      replace VG := VG.kept b6
      replace hRa := hRa.kept b6
      replace ow := ow.kept b6
      replace qa := qa.kept b6
      replace og := og.kept b6
      replace ra := ra.kept b6
      replace B := thenB B b6
      clear b6
      obtain ⟨s_VAx, f_VAx, z_VAx⟩ := VAx.open
      obtain ⟨s_VW, f_VW, z_VW⟩ := VW.open
      obtain ⟨s_VG, f_VG, z_VG⟩ := VG.open
      have Bo := B
      clear L_ra
      clear ra
      go_wp2_with fail
      refine (CMa.out _ _ _ _ qa).mono ?_
      rintro e w7 ⟨rfl, oq, gm⟩
      clear s_VAx f_VAx z_VAx s_VW f_VW z_VW s_VG f_VG z_VG
      replace VAx := VAx.grownR gm (row_ne fun b hb => by have h := L_qa b hb; omega)
      replace VW := VW.grownR gm (row_ne fun b hb => by have h := L_qa b hb; omega)
      replace VG := VG.grownR gm (row_ne fun b hb => by have h := L_qa b hb; omega)
      replace ow := ow.grown gm (fun b hb => row_ne fun b' hb' => by have h1 := L_ow b hb; have h2 := L_qa b' hb'; omega)
      replace og := og.grown gm (fun b hb => row_ne fun b' hb' => by have h1 := L_og b hb; have h2 := L_qa b' hb'; omega)
      replace B := belowG B gm (by omega) (fun b hb => by have h := L_qa b hb; omega)
      replace hRa := HWa.out.kept B
      have S7 := gm.size
      clear gm qa
      have qa := oq
      clear oq
      obtain ⟨s_VAx, f_VAx, z_VAx⟩ := VAx.open
      obtain ⟨s_VW, f_VW, z_VW⟩ := VW.open
      obtain ⟨s_VG, f_VG, z_VG⟩ := VG.open
      have Bo := B
      go_wp2_with fail
      refine (eqTermResult_ok kc kk cg cw kl dg dw ls _ og.rd ow.rd HK.out hkl).mono ?_
      rintro e w8 ⟨rfl, b8⟩
      clear s_VAx f_VAx z_VAx s_VW f_VW z_VW s_VG f_VG z_VG
      have S8 := b8.size
      replace VAx := VAx.kept b8
      replace VW := VW.kept b8
      replace VG := VG.kept b8
      replace hRa := hRa.kept b8
      replace ow := ow.kept b8
      replace qa := qa.kept b8
      replace og := og.kept b8
      replace B := thenB B b8
      clear b8
      obtain ⟨s_VAx, f_VAx, z_VAx⟩ := VAx.open
      obtain ⟨s_VW, f_VW, z_VW⟩ := VW.open
      obtain ⟨s_VG, f_VG, z_VG⟩ := VG.open
      have Bo := B
      have hqm : ¬ (1 + 4 * (kl : Int)) < 0 := by omega
      go_wp2_with fail
      refine (markTermResult_ok kc kk cg kl dg _ ls 1 _ og HK.out (by omega) (by omega)).mono ?_
      rintro e w9 ⟨rfl, oq, gm⟩
      clear s_VAx f_VAx z_VAx s_VW f_VW z_VW s_VG f_VG z_VG
      replace VAx := VAx.grownR gm (row_ne fun b hb => by have h := L_og b hb; omega)
      replace VW := VW.grownR gm (row_ne fun b hb => by have h := L_og b hb; omega)
      replace VG := VG.grownR gm (row_ne fun b hb => by have h := L_og b hb; omega)
      replace ow := ow.grown gm (fun b hb => row_ne fun b' hb' => by have h1 := L_ow b hb; have h2 := L_og b' hb'; omega)
      replace qa := qa.grown gm (fun b hb => row_ne fun b' hb' => by have h1 := L_qa b hb; have h2 := L_og b' hb'; omega)
      replace B := belowG B gm (by omega) (fun b hb => by have h := L_og b hb; omega)
      replace hRa := HWa.out.kept B
      have S9 := gm.size
      clear gm og
      have og := oq
      clear oq
      obtain ⟨s_VAx, f_VAx, z_VAx⟩ := VAx.open
      obtain ⟨s_VW, f_VW, z_VW⟩ := VW.open
      obtain ⟨s_VG, f_VG, z_VG⟩ := VG.open
      have Bo := B
      go_wp2_with fail
      refine (heldTermResult_ok kc kk cg kl dg 1 _ og.rd (by omega) (by omega)).mono ?_
      rintro e w10 ⟨rfl, b10⟩
      clear s_VAx f_VAx z_VAx s_VW f_VW z_VW s_VG f_VG z_VG
      have S10 := b10.size
      replace VAx := VAx.kept b10
      replace VW := VW.kept b10
      replace VG := VG.kept b10
      replace hRa := hRa.kept b10
      replace ow := ow.kept b10
      replace qa := qa.kept b10
      replace og := og.kept b10
      replace B := thenB B b10
      clear b10
      obtain ⟨s_VAx, f_VAx, z_VAx⟩ := VAx.open
      obtain ⟨s_VW, f_VW, z_VW⟩ := VW.open
      obtain ⟨s_VG, f_VG, z_VG⟩ := VG.open
      have Bo := B
      have K : ∀ w' : World, Below w10.heap.size w10 w' → (w'.cell? ⟨w.heap.size, 0, none⟩ = some (.int .i64 x.o) ∧ w'.cell? ⟨w.heap.size, 1, none⟩ = some (.int .i64 x.a) ∧ w'.cell? ⟨w.heap.size, 2, none⟩ = some (.int .i64 x.b) ∧ w'.cell? ⟨w.heap.size, 3, none⟩ = some (.int .i64 x.n)) := fun w' h => ⟨(VAx.kept h).2.1 0 (by simp), (VAx.kept h).2.1 1 (by simp), (VAx.kept h).2.1 2 (by simp), (VAx.kept h).2.1 3 (by simp)⟩
      have K := Hid.mk K
      have HR1 := Hid.mk hRa
      go_upto_region 24 with fail
      clear s_VAx f_VAx z_VAx s_VW f_VW z_VW s_VG f_VG z_VG
      go_cut [12] (fun p wx => ∃ (P2 : Nat) (ch : Option Addr) (dh : Nat), p = .pointer (some ⟨P2, 0, none⟩) ∧ V wx P2 [.int .i64 kc, .int .i64 kk, .slice ch kl dh] ∧ OwnTerm wx (w10.heap.size) ch dh ls ∧ Below w10.heap.size w10 wx ∧ w10.heap.size ≤ P2 ∧ Hid (∀ b : Addr, ch = some b → b.block ≠ P2))
      case first =>
        clear VAx VW VG hRa ow qa og
        refine wp_region_held_drew (S := (fun w' => w'.cell? ⟨w.heap.size, 0, none⟩ = some (.int .i64 x.o) ∧ w'.cell? ⟨w.heap.size, 1, none⟩ = some (.int .i64 x.a) ∧ w'.cell? ⟨w.heap.size, 2, none⟩ = some (.int .i64 x.b) ∧ w'.cell? ⟨w.heap.size, 3, none⟩ = some (.int .i64 x.n))) (by kernel_rfl) (K.out _ (Below.refl _ _).drew) (fun hHeld => ?_)
        have bd : Below w10.heap.size w10 w10.drew := (Below.refl _ _).drew
        have hsd : w10.heap.size ≤ w10.drew.heap.size := by have := bd.size; (try simp only [World.size_alloc] at this); omega
        generalize w10.drew = wd at *
        refine wpAnyH_take (i := 0) (oi := _) (v := ?vpt24_0) rfl (by kernel_rfl) (by kernel_rfl) (by kernel_rfl) (fun _ _ _ h => h) (Or.inl ⟨by rfl, ?hypt24_0⟩) hHeld ?restpt24_0
        case hypt24_0 => (intro w hSw; (try dsimp only at hSw); go_simp; first | done | with_reducible rfl)
        try simp only [Act.put, List.getElem_toArray, List.getElem_cons_zero, List.setIfInBounds_toArray, List.set_cons_zero, List.set_cons_succ]
        refine wpAnyH_take (i := 2) (oi := _) (v := ?vpt24_2) rfl (by kernel_rfl) (by kernel_rfl) (by kernel_rfl) (fun _ _ _ h => h) (Or.inl ⟨by rfl, ?hypt24_2⟩) hHeld ?restpt24_2
        case hypt24_2 => (intro w hSw; (try dsimp only at hSw); go_simp; first | done | with_reducible rfl)
        try simp only [Act.put, List.getElem_toArray, List.getElem_cons_zero, List.getElem_cons_succ, List.setIfInBounds_toArray, List.set_cons_zero, List.set_cons_succ]
        refine wpAnyH_ready (rs := [1, 5]) (by kernel_rfl) (by simp) ?_
        refine AllReadyH.cons (o := _) rfl (fun K0 hK0 => ?_) (AllReadyH.cons (o := _) rfl (fun K0 hK0 => ?_) AllReadyH.nil)
        · skip
          go_simp
          go_at_call 20
          refine (CTa.out _ (HR1.out.kept bd)).mono ?_
          rintro e w_1 ⟨rfl, oR, b_1⟩
          have hsz1 := b_1.size
          refine hK0.out _ _ (K.out _ (thenB bd b_1)) (fun hHeld => ?_)
          clear hK0 K0
          try simp only [Act.put, List.getElem_toArray, List.getElem_cons_zero, List.getElem_cons_succ, List.setIfInBounds_toArray, List.set_cons_zero, List.set_cons_succ]
          refine wpAnyH_ready (rs := [3, 5]) (by kernel_rfl) (by simp) ?_
          refine AllReadyH.cons (o := _) rfl (fun K0 hK0 => ?_) (AllReadyH.cons (o := _) rfl (fun K0 hK0 => ?_) AllReadyH.nil)
          · skip
            go_simp
            go_at_call 22
            refine (toTerm_ok x _).mono ?_
            rintro e w_2 ⟨rfl, b_2⟩
            have hsz2 := b_2.size
            replace oR := oR.kept b_2
            refine hK0.out _ _ (K.out _ (thenB (thenB bd b_1) b_2)) (fun hHeld => ?_)
            clear hK0 K0
            try simp only [Act.put, List.getElem_toArray, List.getElem_cons_zero, List.getElem_cons_succ, List.setIfInBounds_toArray, List.set_cons_zero, List.set_cons_succ]
            refine wpAnyH_ready (rs := [4, 5]) (by kernel_rfl) (by simp) ?_
            refine AllReadyH.cons (o := _) rfl (fun K0 hK0 => ?_) (AllReadyH.cons (o := _) rfl (fun K0 hK0 => ?_) AllReadyH.nil)
            · skip
              go_simp
              go_at_call 15
              refine (CI.out _ _ _ oR.rd).mono ?_
              rintro e w_3 ⟨ch, dh, rfl, oW, b_3⟩
              have hsz3 := b_3.size
              have lW0 := oW.lt
              have lW := Hid.mk lW0
              clear lW0
              replace oW := oW.mono (base' := w10.heap.size) (by omega)
              refine hK0.out _ _ (K.out _ (thenB (thenB (thenB bd b_1) b_2) b_3)) (fun hHeld => ?_)
              clear hK0 K0
              try simp only [Act.put, List.getElem_toArray, List.getElem_cons_zero, List.getElem_cons_succ, List.setIfInBounds_toArray, List.set_cons_zero, List.set_cons_succ]
              refine wpAnyH_ready (rs := [5]) (by kernel_rfl) (by simp) ?_
              refine AllReadyH.cons (o := _) rfl (fun K0 hK0 => ?_) AllReadyH.nil
              go_simp
              refine hK0.out _ _ (K.out _ (thenB (thenB (thenB (thenB bd b_1) b_2) b_3) (belowA w_3 (.cells #[.int .i64 0, .int .i64 0, .slice none 0 0] 30)))) (fun hHeld => ?_)
              clear hK0 K0
              try simp only [Act.put, List.getElem_toArray, List.getElem_cons_zero, List.getElem_cons_succ, List.setIfInBounds_toArray, List.set_cons_zero, List.set_cons_succ]
              have VN : V (w_3.alloc (.cells #[.int .i64 0, .int .i64 0, .slice none 0 0] 30)) w_3.heap.size [.int .i64 0, .int .i64 0, .slice none 0 0] := V.new _ _ _
              have bq4 := belowA w_3 (.cells #[.int .i64 0, .int .i64 0, .slice none 0 0] 30)
              have hsz4 := bq4.size
              replace oW := oW.kept bq4
              have hPQ : Hid (w10.heap.size ≤ w_3.heap.size) := Hid.mk ((thenB (thenB (thenB bd b_1) b_2) b_3)).size
              have hP1 : w10.heap.size ≤ w_3.heap.size := by omega
              have hPW : Hid (∀ b : Addr, ch = some b → b.block ≠ w_3.heap.size) := Hid.mk (fun b hb => by have := (lW.out b hb).2; omega)
              obtain ⟨P, hP⟩ : ∃ P, w_3.heap.size = P := ⟨_, rfl⟩
              rw [hP] at VN hPQ hP1 hPW
              have hPl : P < (w_3.alloc (.cells #[.int .i64 0, .int .i64 0, .slice none 0 0] 30)).heap.size := VN.1
              generalize hgw : w_3.alloc (.cells #[.int .i64 0, .int .i64 0, .slice none 0 0] 30) = wq4 at *
              clear hgw
              try rw [hP]
              clear hP
              refine wpAnyH_ready (rs := [6]) (by kernel_rfl) (by simp) ?_
              refine AllReadyH.cons (o := _) rfl (fun K0 hK0 => ?_) AllReadyH.nil
              rw [if_pos (by rfl)]
              have hT := VN.there
              have VF := VN.filled [.int .i64 kc, .int .i64 kk, .slice ch kl dh] rfl
              have bF := belowCells (thenB (thenB (thenB (thenB bd b_1) b_2) b_3) bq4) hPQ.out 0 [.int .i64 kc, .int .i64 kk, .slice ch kl dh]
              have OF := oW.apart hPW.out 0 [.int .i64 kc, .int .i64 kk, .slice ch kl dh]
              refine wp_store_mid _ _ _ rfl P 0 #[.int .i64 kc, .int .i64 kk, .slice ch kl dh] rfl rfl hT (by kernel_rfl) (by kernel_rfl) ?_
              refine hK0.out _ _ (K.out _ bF) (fun hHeld => ?_)
              clear hK0 K0
              refine wpAnyH_done (by kernel_rfl) ?_ _
              go_wp2_with fail
              go_meet
              exact ⟨P, ch, dh, rfl, VF, OF, bF, by omega, hPW⟩
            · skip
              go_simp
              refine hK0.out _ _ (K.out _ (thenB (thenB (thenB bd b_1) b_2) (belowA w_2 (.cells #[.int .i64 0, .int .i64 0, .slice none 0 0] 30)))) (fun hHeld => ?_)
              clear hK0 K0
              try simp only [Act.put, List.getElem_toArray, List.getElem_cons_zero, List.getElem_cons_succ, List.setIfInBounds_toArray, List.set_cons_zero, List.set_cons_succ]
              have VN : V (w_2.alloc (.cells #[.int .i64 0, .int .i64 0, .slice none 0 0] 30)) w_2.heap.size [.int .i64 0, .int .i64 0, .slice none 0 0] := V.new _ _ _
              have bq5 := belowA w_2 (.cells #[.int .i64 0, .int .i64 0, .slice none 0 0] 30)
              have hsz5 := bq5.size
              replace oR := oR.kept bq5
              have hPQ : Hid (w10.heap.size ≤ w_2.heap.size) := Hid.mk ((thenB (thenB bd b_1) b_2)).size
              have hP1 : w10.heap.size ≤ w_2.heap.size := by omega
              obtain ⟨P, hP⟩ : ∃ P, w_2.heap.size = P := ⟨_, rfl⟩
              rw [hP] at VN hPQ hP1
              have hPl : P < (w_2.alloc (.cells #[.int .i64 0, .int .i64 0, .slice none 0 0] 30)).heap.size := VN.1
              generalize hgw : w_2.alloc (.cells #[.int .i64 0, .int .i64 0, .slice none 0 0] 30) = wq5 at *
              clear hgw
              try rw [hP]
              clear hP
              refine wpAnyH_ready (rs := [4]) (by kernel_rfl) (by simp) ?_
              refine AllReadyH.cons (o := _) rfl (fun K0 hK0 => ?_) AllReadyH.nil
              go_simp
              go_at_call 15
              have VNl := Hid.mk VN.1
              refine (CI.out _ _ _ oR.rd).mono ?_
              rintro e w_6 ⟨ch, dh, rfl, oW, b_6⟩
              have hsz6 := b_6.size
              replace VN := VN.kept b_6
              have lW0 := oW.lt
              have lW := Hid.mk lW0
              clear lW0
              have hPW : Hid (∀ b : Addr, ch = some b → b.block ≠ P) := Hid.mk (fun b hb => by have := (lW.out b hb).1; have := VNl.out; omega)
              replace oW := oW.mono (base' := w10.heap.size) (by omega)
              refine hK0.out _ _ (K.out _ (thenB (thenB (thenB (thenB bd b_1) b_2) bq5) b_6)) (fun hHeld => ?_)
              clear hK0 K0
              try simp only [Act.put, List.getElem_toArray, List.getElem_cons_zero, List.getElem_cons_succ, List.setIfInBounds_toArray, List.set_cons_zero, List.set_cons_succ]
              refine wpAnyH_ready (rs := [6]) (by kernel_rfl) (by simp) ?_
              refine AllReadyH.cons (o := _) rfl (fun K0 hK0 => ?_) AllReadyH.nil
              rw [if_pos (by rfl)]
              have hT := VN.there
              have VF := VN.filled [.int .i64 kc, .int .i64 kk, .slice ch kl dh] rfl
              have bF := belowCells (thenB (thenB (thenB (thenB bd b_1) b_2) bq5) b_6) hPQ.out 0 [.int .i64 kc, .int .i64 kk, .slice ch kl dh]
              have OF := oW.apart hPW.out 0 [.int .i64 kc, .int .i64 kk, .slice ch kl dh]
              refine wp_store_mid _ _ _ rfl P 0 #[.int .i64 kc, .int .i64 kk, .slice ch kl dh] rfl rfl hT (by kernel_rfl) (by kernel_rfl) ?_
              refine hK0.out _ _ (K.out _ bF) (fun hHeld => ?_)
              clear hK0 K0
              refine wpAnyH_done (by kernel_rfl) ?_ _
              go_wp2_with fail
              go_meet
              exact ⟨P, ch, dh, rfl, VF, OF, bF, by omega, hPW⟩
          · skip
            go_simp
            refine hK0.out _ _ (K.out _ (thenB (thenB bd b_1) (belowA w_1 (.cells #[.int .i64 0, .int .i64 0, .slice none 0 0] 30)))) (fun hHeld => ?_)
            clear hK0 K0
            try simp only [Act.put, List.getElem_toArray, List.getElem_cons_zero, List.getElem_cons_succ, List.setIfInBounds_toArray, List.set_cons_zero, List.set_cons_succ]
            have VN : V (w_1.alloc (.cells #[.int .i64 0, .int .i64 0, .slice none 0 0] 30)) w_1.heap.size [.int .i64 0, .int .i64 0, .slice none 0 0] := V.new _ _ _
            have bq7 := belowA w_1 (.cells #[.int .i64 0, .int .i64 0, .slice none 0 0] 30)
            have hsz7 := bq7.size
            replace oR := oR.kept bq7
            have hPQ : Hid (w10.heap.size ≤ w_1.heap.size) := Hid.mk ((thenB bd b_1)).size
            have hP1 : w10.heap.size ≤ w_1.heap.size := by omega
            obtain ⟨P, hP⟩ : ∃ P, w_1.heap.size = P := ⟨_, rfl⟩
            rw [hP] at VN hPQ hP1
            have hPl : P < (w_1.alloc (.cells #[.int .i64 0, .int .i64 0, .slice none 0 0] 30)).heap.size := VN.1
            generalize hgw : w_1.alloc (.cells #[.int .i64 0, .int .i64 0, .slice none 0 0] 30) = wq7 at *
            clear hgw
            try rw [hP]
            clear hP
            refine wpAnyH_ready (rs := [3]) (by kernel_rfl) (by simp) ?_
            refine AllReadyH.cons (o := _) rfl (fun K0 hK0 => ?_) AllReadyH.nil
            go_simp
            go_at_call 22
            refine (toTerm_ok x _).mono ?_
            rintro e w_8 ⟨rfl, b_8⟩
            have hsz8 := b_8.size
            replace VN := VN.kept b_8
            replace oR := oR.kept b_8
            refine hK0.out _ _ (K.out _ (thenB (thenB (thenB bd b_1) bq7) b_8)) (fun hHeld => ?_)
            clear hK0 K0
            try simp only [Act.put, List.getElem_toArray, List.getElem_cons_zero, List.getElem_cons_succ, List.setIfInBounds_toArray, List.set_cons_zero, List.set_cons_succ]
            refine wpAnyH_ready (rs := [4]) (by kernel_rfl) (by simp) ?_
            refine AllReadyH.cons (o := _) rfl (fun K0 hK0 => ?_) AllReadyH.nil
            go_simp
            go_at_call 15
            have VNl := Hid.mk VN.1
            refine (CI.out _ _ _ oR.rd).mono ?_
            rintro e w_9 ⟨ch, dh, rfl, oW, b_9⟩
            have hsz9 := b_9.size
            replace VN := VN.kept b_9
            have lW0 := oW.lt
            have lW := Hid.mk lW0
            clear lW0
            have hPW : Hid (∀ b : Addr, ch = some b → b.block ≠ P) := Hid.mk (fun b hb => by have := (lW.out b hb).1; have := VNl.out; omega)
            replace oW := oW.mono (base' := w10.heap.size) (by omega)
            refine hK0.out _ _ (K.out _ (thenB (thenB (thenB (thenB bd b_1) bq7) b_8) b_9)) (fun hHeld => ?_)
            clear hK0 K0
            try simp only [Act.put, List.getElem_toArray, List.getElem_cons_zero, List.getElem_cons_succ, List.setIfInBounds_toArray, List.set_cons_zero, List.set_cons_succ]
            refine wpAnyH_ready (rs := [6]) (by kernel_rfl) (by simp) ?_
            refine AllReadyH.cons (o := _) rfl (fun K0 hK0 => ?_) AllReadyH.nil
            rw [if_pos (by rfl)]
            have hT := VN.there
            have VF := VN.filled [.int .i64 kc, .int .i64 kk, .slice ch kl dh] rfl
            have bF := belowCells (thenB (thenB (thenB (thenB bd b_1) bq7) b_8) b_9) hPQ.out 0 [.int .i64 kc, .int .i64 kk, .slice ch kl dh]
            have OF := oW.apart hPW.out 0 [.int .i64 kc, .int .i64 kk, .slice ch kl dh]
            refine wp_store_mid _ _ _ rfl P 0 #[.int .i64 kc, .int .i64 kk, .slice ch kl dh] rfl rfl hT (by kernel_rfl) (by kernel_rfl) ?_
            refine hK0.out _ _ (K.out _ bF) (fun hHeld => ?_)
            clear hK0 K0
            refine wpAnyH_done (by kernel_rfl) ?_ _
            go_wp2_with fail
            go_meet
            exact ⟨P, ch, dh, rfl, VF, OF, bF, by omega, hPW⟩
        · skip
          go_simp
          refine hK0.out _ _ (K.out _ (thenB bd (belowA wd (.cells #[.int .i64 0, .int .i64 0, .slice none 0 0] 30)))) (fun hHeld => ?_)
          clear hK0 K0
          try simp only [Act.put, List.getElem_toArray, List.getElem_cons_zero, List.getElem_cons_succ, List.setIfInBounds_toArray, List.set_cons_zero, List.set_cons_succ]
          have VN : V (wd.alloc (.cells #[.int .i64 0, .int .i64 0, .slice none 0 0] 30)) wd.heap.size [.int .i64 0, .int .i64 0, .slice none 0 0] := V.new _ _ _
          have bq10 := belowA wd (.cells #[.int .i64 0, .int .i64 0, .slice none 0 0] 30)
          have hsz10 := bq10.size
          have hPQ : Hid (w10.heap.size ≤ wd.heap.size) := Hid.mk (bd).size
          have hP1 : w10.heap.size ≤ wd.heap.size := by omega
          obtain ⟨P, hP⟩ : ∃ P, wd.heap.size = P := ⟨_, rfl⟩
          rw [hP] at VN hPQ hP1
          have hPl : P < (wd.alloc (.cells #[.int .i64 0, .int .i64 0, .slice none 0 0] 30)).heap.size := VN.1
          generalize hgw : wd.alloc (.cells #[.int .i64 0, .int .i64 0, .slice none 0 0] 30) = wq10 at *
          clear hgw
          try rw [hP]
          clear hP
          refine wpAnyH_ready (rs := [1]) (by kernel_rfl) (by simp) ?_
          refine AllReadyH.cons (o := _) rfl (fun K0 hK0 => ?_) AllReadyH.nil
          go_simp
          go_at_call 20
          refine (CTa.out _ (HR1.out.kept (thenB bd bq10))).mono ?_
          rintro e w_11 ⟨rfl, oR, b_11⟩
          have hsz11 := b_11.size
          replace VN := VN.kept b_11
          refine hK0.out _ _ (K.out _ (thenB (thenB bd bq10) b_11)) (fun hHeld => ?_)
          clear hK0 K0
          try simp only [Act.put, List.getElem_toArray, List.getElem_cons_zero, List.getElem_cons_succ, List.setIfInBounds_toArray, List.set_cons_zero, List.set_cons_succ]
          refine wpAnyH_ready (rs := [3]) (by kernel_rfl) (by simp) ?_
          refine AllReadyH.cons (o := _) rfl (fun K0 hK0 => ?_) AllReadyH.nil
          go_simp
          go_at_call 22
          refine (toTerm_ok x _).mono ?_
          rintro e w_12 ⟨rfl, b_12⟩
          have hsz12 := b_12.size
          replace VN := VN.kept b_12
          replace oR := oR.kept b_12
          refine hK0.out _ _ (K.out _ (thenB (thenB (thenB bd bq10) b_11) b_12)) (fun hHeld => ?_)
          clear hK0 K0
          try simp only [Act.put, List.getElem_toArray, List.getElem_cons_zero, List.getElem_cons_succ, List.setIfInBounds_toArray, List.set_cons_zero, List.set_cons_succ]
          refine wpAnyH_ready (rs := [4]) (by kernel_rfl) (by simp) ?_
          refine AllReadyH.cons (o := _) rfl (fun K0 hK0 => ?_) AllReadyH.nil
          go_simp
          go_at_call 15
          have VNl := Hid.mk VN.1
          refine (CI.out _ _ _ oR.rd).mono ?_
          rintro e w_13 ⟨ch, dh, rfl, oW, b_13⟩
          have hsz13 := b_13.size
          replace VN := VN.kept b_13
          have lW0 := oW.lt
          have lW := Hid.mk lW0
          clear lW0
          have hPW : Hid (∀ b : Addr, ch = some b → b.block ≠ P) := Hid.mk (fun b hb => by have := (lW.out b hb).1; have := VNl.out; omega)
          replace oW := oW.mono (base' := w10.heap.size) (by omega)
          refine hK0.out _ _ (K.out _ (thenB (thenB (thenB (thenB bd bq10) b_11) b_12) b_13)) (fun hHeld => ?_)
          clear hK0 K0
          try simp only [Act.put, List.getElem_toArray, List.getElem_cons_zero, List.getElem_cons_succ, List.setIfInBounds_toArray, List.set_cons_zero, List.set_cons_succ]
          refine wpAnyH_ready (rs := [6]) (by kernel_rfl) (by simp) ?_
          refine AllReadyH.cons (o := _) rfl (fun K0 hK0 => ?_) AllReadyH.nil
          rw [if_pos (by rfl)]
          have hT := VN.there
          have VF := VN.filled [.int .i64 kc, .int .i64 kk, .slice ch kl dh] rfl
          have bF := belowCells (thenB (thenB (thenB (thenB bd bq10) b_11) b_12) b_13) hPQ.out 0 [.int .i64 kc, .int .i64 kk, .slice ch kl dh]
          have OF := oW.apart hPW.out 0 [.int .i64 kc, .int .i64 kk, .slice ch kl dh]
          refine wp_store_mid _ _ _ rfl P 0 #[.int .i64 kc, .int .i64 kk, .slice ch kl dh] rfl rfl hT (by kernel_rfl) (by kernel_rfl) ?_
          refine hK0.out _ _ (K.out _ bF) (fun hHeld => ?_)
          clear hK0 K0
          refine wpAnyH_done (by kernel_rfl) ?_ _
          go_wp2_with fail
          go_meet
          exact ⟨P, ch, dh, rfl, VF, OF, bF, by omega, hPW⟩
      case rest =>
        clear K
        obtain ⟨P2, ch, dh, rfl, VH, oh, BQ, hPP2, hPwP2⟩ := hcut
        replace VAx := VAx.kept BQ
        replace VW := VW.kept BQ
        replace VG := VG.kept BQ
        replace hRa := hRa.kept BQ
        replace ow := ow.kept BQ
        replace qa := qa.kept BQ
        replace og := og.kept BQ
        replace B := thenB B BQ
        have SQP2 := BQ.size
        try simp only [World.size_alloc] at SQP2
        clear BQ HR1
        generalize hgz : wc = wz24 at *
        clear hgz
        have hlw := oh.lt
        have L_oh : ∀ b : Addr, ch = some b → w10.heap.size ≤ b.block ∧ b.block < wz24.heap.size := fun b hb => hlw b hb
        have hPvP2 := VH.1
        clear hlw
        obtain ⟨s_VAx, f_VAx, z_VAx⟩ := VAx.open
        obtain ⟨s_VW, f_VW, z_VW⟩ := VW.open
        obtain ⟨s_VG, f_VG, z_VG⟩ := VG.open
        obtain ⟨s_VH, f_VH, z_VH⟩ := VH.open
        have Bo := B
        go_wp2_with fail
        refine (eqTermResult_ok kc kk ch cw kl dh dw ls _ oh.rd ow.rd HK.out hkl).mono ?_
        rintro e w11 ⟨rfl, b11⟩
        clear s_VAx f_VAx z_VAx s_VW f_VW z_VW s_VG f_VG z_VG s_VH f_VH z_VH
        have S11 := b11.size
        replace VAx := VAx.kept b11
        replace VW := VW.kept b11
        replace VG := VG.kept b11
        replace VH := VH.kept b11
        replace hRa := hRa.kept b11
        replace ow := ow.kept b11
        replace qa := qa.kept b11
        replace og := og.kept b11
        replace oh := oh.kept b11
        replace B := thenB B b11
        clear b11
        obtain ⟨s_VAx, f_VAx, z_VAx⟩ := VAx.open
        obtain ⟨s_VW, f_VW, z_VW⟩ := VW.open
        obtain ⟨s_VG, f_VG, z_VG⟩ := VG.open
        obtain ⟨s_VH, f_VH, z_VH⟩ := VH.open
        have Bo := B
        go_wp2_with fail
        refine (heldTermResult_ok kc kk cg kl dg 1 _ og.rd (by omega) (by omega)).mono ?_
        rintro e w12 ⟨rfl, b12⟩
        clear s_VAx f_VAx z_VAx s_VW f_VW z_VW s_VG f_VG z_VG s_VH f_VH z_VH
        have S12 := b12.size
        replace VAx := VAx.kept b12
        replace VW := VW.kept b12
        replace VG := VG.kept b12
        replace VH := VH.kept b12
        replace hRa := hRa.kept b12
        replace ow := ow.kept b12
        replace qa := qa.kept b12
        replace og := og.kept b12
        replace oh := oh.kept b12
        replace B := thenB B b12
        clear b12
        obtain ⟨s_VAx, f_VAx, z_VAx⟩ := VAx.open
        obtain ⟨s_VW, f_VW, z_VW⟩ := VW.open
        obtain ⟨s_VG, f_VG, z_VG⟩ := VG.open
        obtain ⟨s_VH, f_VH, z_VH⟩ := VH.open
        have Bo := B
        go_wp2
        go_ret
        exact ⟨rfl, Bo⟩
  · have hlt : 1048576 < (na : Int) := by omega
    go_enter Try.func5, Try.ntmps5
    go_wp2_with fail
    refine (szTermS_out aa na ca 1048576 _ hlt (by omega) (by omega) hxa).mono ?_
    rintro e wq ⟨rfl, rfl⟩
    go_wp2
    go_ret
    exact ⟨rfl, belowA _ _⟩

end Go.Proofs.Ytedippfnlaiapaa
