/- Put together: TpC, MvM, XTmQ, OcB. -/
import Derived.Test.YthjaehcfakjemaaDoorFmo
import Derived.Test.YthjaehcfakjemaaDoorFml
import Derived.Test.YthjaehcfakjemaaDoorFmh
import Derived.Test.YthjaehcfakjemaaDoorFme
import Derived.Test.YthjaehcfakjemaaDoorOcA

/- PartsOf: both sides. -/
namespace Go.Proofs.YthjaehcfakjemaaDoor
open Go.RowKit

theorem Own.apart1 {w : World} {base : Nat} {a : Option Addr} {cap : Nat} {zs : List Int} {B : Nat} (h : Own .i64 2 w base a cap zs) (hB : ∀ b : Addr, a = some b → b.block ≠ B) (o : Nat) (vs : List Value) : Own .i64 2 (w.setCells B o vs) base a cap zs :=
  h.sm (X := fun k => k = B) (Sm.cells (X := fun k => k = B) (B := B) rfl o vs) (fun b hb e => hB b hb e)

theorem build_is0 (k : Int) (w : World) : (Instr.build 40 #[(0, .int .i64 k)]).run Tryd.prog w = .ok (.agg #[.int .i64 k, .slice none 0 0]) w := run_build w 40 _ _ (by kernel_rfl)

theorem build_is1 (c : Option Addr) (n d : Nat) (w : World) : (Instr.build 40 #[(1, .slice c n d)]).run Tryd.prog w = .ok (.agg #[.int .i64 0, .slice c n d]) w := run_build w 40 _ _ (by kernel_rfl)

/-- What PartsOf answers beside its code. -/
@[irreducible] def paL (xs : List T4) (q : Int) : List Int := if akC xs q = 0 then prL xs q.toNat else []

theorem pa_ways (xs : List T4) (q : Int) : (akC xs q ≠ 0 ∧ paL xs q = []) ∨ (akC xs q = 0 ∧ paL xs q = prL xs q.toNat) := by
  unfold paL
  by_cases h : akC xs q = 0
  · exact .inr ⟨h, by rw [if_pos h]⟩
  · exact .inl ⟨h, by rw [if_neg h]⟩

theorem pa_ways2 (xs : List T4) (q : Int) : (tfC xs ≠ 0 ∧ akC xs q = tfC xs ∧ paL xs q = []) ∨ (tfC xs = 0 ∧ btw q 0 ((xs.length : Int) - 1) = false ∧ akC xs q = 3 ∧ paL xs q = []) ∨ (tfC xs = 0 ∧ btw q 0 ((xs.length : Int) - 1) = true ∧ akC xs q = 0 ∧ paL xs q = prL xs q.toNat) := by
  have h1 := pa_ways xs q
  rcases ak_ways xs q with ⟨h2, h3⟩ | ⟨h2, h4, h3⟩ | ⟨h2, h4, h3⟩
  · rcases h1 with ⟨_, h⟩ | ⟨h, _⟩
    · exact .inl ⟨h2, h3, h⟩
    · omega
  · rcases h1 with ⟨_, h⟩ | ⟨h, _⟩
    · exact .inr (.inl ⟨h2, h4, h3, h⟩)
    · omega
  · rcases h1 with ⟨h, _⟩ | ⟨_, h⟩
    · omega
    · exact .inr (.inr ⟨h2, h4, h3, h⟩)

set_option maxRecDepth 20000 in
set_option maxHeartbeats 4000000 in
theorem partsOf_ok (base p g : Nat) (c : Option Addr) (d : Nat) (xs : List T4) (n r : Nat) (w : World) (H : Bk w base p g c d xs) (hn : xs.length = n) (hv : tfC xs = 0) (hok : ∀ t ∈ xs, okT t) (hr : r < n) :
    Calls Tryd.prog 34 #[.pointer (some ⟨p, 0, none⟩), .int .i64 r] w fun e w' => ∃ g4 d4 k4, e = .returned (.slice (some ⟨g4, 0, none⟩) k4 d4) ∧ (prL xs r).length = k4 ∧ Own .i64 2 w' w.heap.size (some ⟨g4, 0, none⟩) d4 (prL xs r) ∧ Below w.heap.size w w' := by
  have VP := H.v
  rw [hn] at VP
  have K : ∀ w' : World, Below w.heap.size w w' → (w'.cell? ⟨p, 0, none⟩ = some (.slice c n d) ∧ w'.cell? ⟨p, 1, none⟩ = some (.map (some g))) := fun w' h => ⟨(VP.kept h).2.1 0 (by simp), (VP.kept h).2.1 1 (by simp)⟩
  have K := Hid.mk K
  have hTc : TM w g (lftM xs []) n := (hn ▸ H.m).eq (fun t _ => by rw [lftM_nil]; rfl)
  have HRd := Hid.mk H.o.rd
  have HOl := Hid.mk H.o.lt
  go_enter Tryd.func34, Tryd.ntmps34
  obtain ⟨s_VP, f_VP, z_VP⟩ := VP.open
  go_wp2_with fail
  clear s_VP f_VP z_VP
  refine wp_region_held_drew (S := (fun w' => w'.cell? ⟨p, 0, none⟩ = some (.slice c n d) ∧ w'.cell? ⟨p, 1, none⟩ = some (.map (some g)))) (by kernel_rfl) (K.out _ (Below.refl _ _).drew) (fun hHeld => ?_)
  refine wpAnyH_take (i := 0) (oi := _) (v := ?vpo0) rfl (by kernel_rfl) (by kernel_rfl) (by kernel_rfl) (fun _ _ _ h => h) (Or.inl ⟨by rfl, ?hypo0⟩) hHeld ?restpo0
  case hypo0 => (intro w hSw; (try dsimp only at hSw); go_simp; first | done | with_reducible rfl)
  try simp only [Act.put, List.getElem_toArray, List.getElem_cons_zero, List.setIfInBounds_toArray, List.set_cons_zero, List.set_cons_succ]
  refine wpAnyH_take (i := 1) (oi := _) (v := ?vpo1) rfl (by kernel_rfl) (by kernel_rfl) (by kernel_rfl) (fun _ _ _ h => h) (Or.inl ⟨by rfl, ?hypo1⟩) hHeld ?restpo1
  case hypo1 => (intro w hSw; (try dsimp only at hSw); go_simp; first | done | with_reducible rfl)
  try simp only [Act.put, List.getElem_toArray, List.getElem_cons_zero, List.getElem_cons_succ, List.setIfInBounds_toArray, List.set_cons_zero, List.set_cons_succ]
  refine wpAnyH_take (i := 2) (oi := _) (v := ?vpo2) rfl (by kernel_rfl) (by kernel_rfl) (by kernel_rfl) (fun _ _ _ h => h) (Or.inl ⟨by rfl, ?hypo2⟩) hHeld ?restpo2
  case hypo2 => (intro w hSw; (try dsimp only at hSw); go_simp; first | done | with_reducible rfl)
  try simp only [Act.put, List.getElem_toArray, List.getElem_cons_zero, List.getElem_cons_succ, List.setIfInBounds_toArray, List.set_cons_zero, List.set_cons_succ]
  refine wpAnyH_take (i := 3) (oi := _) (v := ?vpo3) rfl (by kernel_rfl) (by kernel_rfl) (by kernel_rfl) (fun _ _ _ h => h) (Or.inl ⟨by rfl, ?hypo3⟩) hHeld ?restpo3
  case hypo3 => (intro w hSw; (try dsimp only at hSw); go_simp; first | done | with_reducible rfl)
  try simp only [Act.put, List.getElem_toArray, List.getElem_cons_zero, List.getElem_cons_succ, List.setIfInBounds_toArray, List.set_cons_zero, List.set_cons_succ]
  refine wpAnyH_take (i := 4) (oi := _) (v := ?vpo4) rfl (by kernel_rfl) (by kernel_rfl) (by kernel_rfl) (fun _ _ _ h => h) (Or.inl ⟨by rfl, ?hypo4⟩) hHeld ?restpo4
  case hypo4 => (intro w hSw; (try dsimp only at hSw); go_simp; first | done | with_reducible rfl)
  try simp only [Act.put, List.getElem_toArray, List.getElem_cons_zero, List.getElem_cons_succ, List.setIfInBounds_toArray, List.set_cons_zero, List.set_cons_succ]
  refine wpAnyH_take (i := 5) (oi := _) (v := ?vpo5) rfl (by kernel_rfl) (by kernel_rfl) (by kernel_rfl) (fun _ _ _ h => h) (Or.inl ⟨by rfl, ?hypo5⟩) hHeld ?restpo5
  case hypo5 => (intro w hSw; (try dsimp only at hSw); go_simp; first | done | with_reducible rfl)
  try simp only [Act.put, List.getElem_toArray, List.getElem_cons_zero, List.getElem_cons_succ, List.setIfInBounds_toArray, List.set_cons_zero, List.set_cons_succ]
  refine wpAnyH_take (i := 6) (oi := _) (v := ?vpo6) rfl (by kernel_rfl) (by kernel_rfl) (by kernel_rfl) (fun _ _ _ h => h) (Or.inl ⟨by rfl, ?hypo6⟩) hHeld ?restpo6
  case hypo6 => (intro w hSw; (try dsimp only at hSw); go_simp; first | done | with_reducible rfl)
  try simp only [Act.put, List.getElem_toArray, List.getElem_cons_zero, List.getElem_cons_succ, List.setIfInBounds_toArray, List.set_cons_zero, List.set_cons_succ]
  refine wpAnyH_take (i := 7) (oi := _) (v := ?vpo7) rfl (by kernel_rfl) (by kernel_rfl) (by kernel_rfl) (fun _ _ _ h => h) (Or.inl ⟨by rfl, ?hypo7⟩) hHeld ?restpo7
  case hypo7 => (intro w hSw; (try dsimp only at hSw); go_simp; first | done | with_reducible rfl)
  try simp only [Act.put, List.getElem_toArray, List.getElem_cons_zero, List.getElem_cons_succ, List.setIfInBounds_toArray, List.set_cons_zero, List.set_cons_succ]
  refine wpAnyH_take (i := 8) (oi := _) (v := ?vpo8) rfl (by kernel_rfl) (by kernel_rfl) (by kernel_rfl) (fun _ _ _ h => h) (Or.inl ⟨by rfl, ?hypo8⟩) hHeld ?restpo8
  case hypo8 => (intro w hSw; (try dsimp only at hSw); go_simp; first | done | with_reducible rfl)
  try simp only [Act.put, List.getElem_toArray, List.getElem_cons_zero, List.getElem_cons_succ, List.setIfInBounds_toArray, List.set_cons_zero, List.set_cons_succ]
  refine wpAnyH_ready (rs := [9]) (by kernel_rfl) (by simp) ?_
  refine AllReadyH.cons (o := _) rfl (fun K0 hK0 => ?_) AllReadyH.nil
  go_simp
  have hTd := hTc.kept (Below.refl w.heap.size w).drew
  go_at_call 62
  refine (clone_ok g (lftM xs []) n _ hTd).mono ?_
  rintro e w3 ⟨rfl, tmc, b3⟩
  have acc := thenB (Below.refl w.heap.size w).drew b3
  refine hK0.out _ _ (K.out _ acc) (fun hHeld => ?_)
  clear hK0 K0 hTd
  try simp only [Act.put, List.getElem_toArray, List.getElem_cons_zero, List.getElem_cons_succ, List.setIfInBounds_toArray, List.set_cons_zero, List.set_cons_succ]
  refine wpAnyH_ready (rs := [10]) (by kernel_rfl) (by simp) ?_
  refine AllReadyH.cons (o := _) rfl (fun K0 hK0 => ?_) AllReadyH.nil
  go_simp
  have hsz3 := acc.size
  have hlt3 := tmc.lt
  go_at_call 61
  refine (takeParts_ok xs n hn hv hok r [] c d _ n _ hr (HRd.out.kept acc) (fun ad had e => by have h1 := (HOl.out ad had).2; simp [go_sem] at e; omega) tmc).mono ?_
  rintro e w4 ⟨c4, d4, k4, ps, rfl, hk4, hw4, O4, TK, -, S4⟩
  have B4 : Below w.heap.size w w4 := S4.below' acc (by omega) (fun k hk => by rw [hk]; simp [go_sem])
  refine hK0.out _ _ (K.out _ B4) (fun hHeld => ?_)
  clear hK0 K0 tmc b3 S4
  try simp only [Act.put, List.getElem_toArray, List.getElem_cons_zero, List.getElem_cons_succ, List.setIfInBounds_toArray, List.set_cons_zero, List.set_cons_succ]
  refine wpAnyH_take (i := 11) (oi := _) (v := ?vpo11) rfl (by kernel_rfl) (by kernel_rfl) (by kernel_rfl) (fun _ _ _ h => h) (Or.inl ⟨by rfl, ?hypo11⟩) hHeld ?restpo11
  case hypo11 => (intro w hSw; (try dsimp only at hSw); go_simp; first | done | with_reducible rfl)
  try simp only [Act.put, List.getElem_toArray, List.getElem_cons_zero, List.getElem_cons_succ, List.setIfInBounds_toArray, List.set_cons_zero, List.set_cons_succ]
  refine wpAnyH_done (by kernel_rfl) ?_ _
  clear hHeld K
  have HALL := Hid.mk (TK.all (names_of (tfC_ahead hv)) (by omega))
  have hklen := TK.len (names_of (tfC_ahead hv)) (by omega)
  have htop := TK.top
  rw [hk4] at hklen
  have hn4 : n ≤ 400 := by have := (tfC_zero hv).1; omega
  rcases hw4 with ⟨_, _, h0⟩ | ⟨hk0, g4, rfl⟩
  · rw [h0] at hk4
    rw [List.eq_nil_of_length_eq_zero hk4] at htop
    simp at htop
  have hO4 := (O4.lt _ rfl)
  simp only at hO4
  replace O4 := O4.mono (base' := w.heap.size) (by omega)
  have hg4 : w.heap.size ≤ g4 := by omega
  clear htop TK
  go_wp2_with fail
  refine (sort_ok w.heap.size g4 d4 ps k4 _ O4 hk4 (by omega)).mono ?_
  rintro e w5 ⟨rfl, O5, S5⟩
  rw [HALL.out] at O5
  have hlen : (prL xs r).length = k4 := by rw [← HALL.out, srt_len, hk4]
  have B5 : Below w.heap.size w w5 := S5.below' B4 (by have := B4.size; omega) (fun k hk => by rw [hk]; exact hg4)
  replace O5 := Hid.mk O5
  replace hlen := Hid.mk hlen
  go_wp2
  go_ret
  exact ⟨g4, d4, k4, rfl, hlen.out, O5.out, B5⟩

set_option maxRecDepth 20000 in
set_option maxHeartbeats 4000000 in
theorem implPartsOf_ok (a : Option Addr) (n ca : Nat) (xs : List T4) (q : Int) (w : World) (ha : RdTerm w a xs) (hn : xs.length = n) (hx : n ≤ maxLen) (hok : ∀ t ∈ xs, okT t) :
    Calls Tryd.prog 13 #[.slice a n ca, .int .i64 q] w fun e w' => ∃ c d k, e = .returned (.agg #[.int .i64 (akC xs q), .slice c k d]) ∧ (paL xs q).length = k ∧ Own .i64 2 w' w.heap.size c d (paL xs q) ∧ Below w.heap.size w w' := by
  have q1 := build_is0
  have q2 := build_is1
  have HW := pa_ways2 xs q
  rw [hn] at HW
  rcases HW with ⟨h1, he, hr⟩ | ⟨h1, h2, he, hr⟩ | ⟨h1, h2, he, hr⟩
  · rw [hr]
    have h2 : (tfC xs != 0) = true := by simp [h1]
    have CB := Hid.mk (fun w h => bookOf_no a n ca xs w h hn hx hok h1)
    have HE := Hid.mk he
    rw [he]
    clear hr h1 he
    generalize tfC xs = kk at *
    go_enter Tryd.func13, Tryd.ntmps13
    have B := Below.refl w.heap.size w
    replace ha := ha.kept (belowA w (.cells #[.int .i64 0, .slice none 0 0] 40))
    replace B := thenB B (belowA w (.cells #[.int .i64 0, .slice none 0 0] 40))
    have VR := V.new w [.int .i64 0, .slice none 0 0] 40
    obtain ⟨s_VR, f_VR, z_VR⟩ := VR.open
    have Bo := B
    go_wp2_with fail
    refine (CB.out _ ha).mono ?_
    rintro e w41 ⟨rfl, b41⟩
    clear s_VR f_VR z_VR
    have S41 := b41.size
    simp only [World.size_alloc] at S41
    replace VR := VR.kept b41
    replace ha := ha.kept b41
    replace B := thenB B b41
    clear b41
    obtain ⟨s_VR, f_VR, z_VR⟩ := VR.open
    have Bo := B
    clear s_VR f_VR z_VR
    have VF := Hid.mk (VR.filled [.int .i64 kk, .slice none 0 0] rfl)
    have HT := Hid.mk VR.there
    have BR := belowCells B (show w.heap.size ≤ w.heap.size by (first | omega | (simp; done) | (simp; omega))) 0 [.int .i64 kk, .slice none 0 0]
    replace BR := Hid.mk BR
    obtain ⟨s_VR, f_VR, z_VR⟩ := VR.open
    go_wp2_with (refine wpList_store_mid rfl 40 _ _ rfl (w.heap.size) 0 #[.int .i64 kk, .slice none 0 0] rfl rfl HT.out (by kernel_rfl) (by kernel_rfl) ?_)
    refine bodyPost_ret (v := .agg #[.int .i64 kk, .slice none 0 0]) (results_row Tryd.results13 _ _ (w.heap.size) [.int .i64 kk, .slice none 0 0] _ rfl VF.out Tryd.underlying40 rfl (by kernel_rfl)) rfl ⟨none, 0, 0, rfl, rfl, own_none, BR.out⟩
  · rw [hr, he]
    have CB := Hid.mk (fun w h => bookOf_yes a n ca xs w h hn hx hok h1)
    have CA := Hid.mk (fun w c0 d0 c1 d1 h => arePlaces_ok c0 n d0 c1 1 d1 [q] w h rfl hx (by unfold maxLen; omega))
    rw [plsOk_one, h2] at CA
    clear hr h1 h2 he
    go_enter Tryd.func13, Tryd.ntmps13
    have B := Below.refl w.heap.size w
    replace ha := ha.kept (belowA w (.cells #[.int .i64 0, .slice none 0 0] 40))
    replace B := thenB B (belowA w (.cells #[.int .i64 0, .slice none 0 0] 40))
    have VR := V.new w [.int .i64 0, .slice none 0 0] 40
    obtain ⟨s_VR, f_VR, z_VR⟩ := VR.open
    have Bo := B
    go_wp2_with fail
    refine (CB.out _ ha).mono ?_
    rintro e w61 ⟨p, g, c, d, rfl, H, b61⟩
    clear s_VR f_VR z_VR
    have S61 := b61.size
    simp only [World.size_alloc] at S61
    replace VR := VR.kept b61
    replace ha := ha.kept b61
    replace B := thenB B b61
    clear b61
    obtain ⟨s_VR, f_VR, z_VR⟩ := VR.open
    have Bo := B
    have VP := H.v
    rw [hn] at VP
    clear s_VR f_VR z_VR
    obtain ⟨s_VR, f_VR, z_VR⟩ := VR.open
    obtain ⟨s_VP, f_VP, z_VP⟩ := VP.open
    have Bo := B
    have hR1 := (OwnI.lit w61 [q] [.int .i64 q] rfl (by unfold maxLen; simp)).rd
    go_wp2_with fail
    refine (CA.out _ _ _ _ _ hR1).mono ?_
    rintro e wq ⟨rfl, rfl⟩
    clear s_VR f_VR z_VR s_VP f_VP z_VP
    replace VR := VR.kept (belowA w61 (.cells #[.int .i64 q] 2))
    replace VP := VP.kept (belowA w61 (.cells #[.int .i64 q] 2))
    replace ha := ha.kept (belowA w61 (.cells #[.int .i64 q] 2))
    replace H := H.kept (belowA w61 (.cells #[.int .i64 q] 2))
    replace B := thenB B (belowA w61 (.cells #[.int .i64 q] 2))
    obtain ⟨s_VR, f_VR, z_VR⟩ := VR.open
    obtain ⟨s_VP, f_VP, z_VP⟩ := VP.open
    have Bo := B
    clear s_VR f_VR z_VR s_VP f_VP z_VP
    have VF := Hid.mk (VR.filled [.int .i64 3, .slice none 0 0] rfl)
    have HT := Hid.mk VR.there
    have BR := belowCells B (show w.heap.size ≤ w.heap.size by (first | omega | (simp; done) | (simp; omega))) 0 [.int .i64 3, .slice none 0 0]
    replace BR := Hid.mk BR
    obtain ⟨s_VR, f_VR, z_VR⟩ := VR.open
    obtain ⟨s_VP, f_VP, z_VP⟩ := VP.open
    go_wp2_with (refine wpList_store_mid rfl 40 _ _ rfl (w.heap.size) 0 #[.int .i64 3, .slice none 0 0] rfl rfl HT.out (by kernel_rfl) (by kernel_rfl) ?_)
    refine bodyPost_ret (v := .agg #[.int .i64 3, .slice none 0 0]) (results_row Tryd.results13 _ _ (w.heap.size) [.int .i64 3, .slice none 0 0] _ rfl VF.out Tryd.underlying40 rfl (by kernel_rfl)) rfl ⟨none, 0, 0, rfl, rfl, own_none, BR.out⟩
  · rw [hr, he]
    have CB := Hid.mk (fun w h => bookOf_yes a n ca xs w h hn hx hok h1)
    have CA := Hid.mk (fun w c0 d0 c1 d1 h => arePlaces_ok c0 n d0 c1 1 d1 [q] w h rfl hx (by unfold maxLen; omega))
    rw [plsOk_one, h2] at CA
    obtain ⟨hq0, hq1⟩ := btw_iff.1 h2
    obtain ⟨m, rfl⟩ : ∃ m : Nat, q = (m : Int) := ⟨q.toNat, by omega⟩
    rw [Int.toNat_natCast]
    have CP := Hid.mk (fun base p g c d w H => partsOf_ok base p g c d xs n m w H hn h1 hok (by omega))
    clear hr h1 h2 hq0 hq1 he
    go_enter Tryd.func13, Tryd.ntmps13
    have B := Below.refl w.heap.size w
    replace ha := ha.kept (belowA w (.cells #[.int .i64 0, .slice none 0 0] 40))
    replace B := thenB B (belowA w (.cells #[.int .i64 0, .slice none 0 0] 40))
    have VR := V.new w [.int .i64 0, .slice none 0 0] 40
    obtain ⟨s_VR, f_VR, z_VR⟩ := VR.open
    have Bo := B
    go_wp2_with fail
    refine (CB.out _ ha).mono ?_
    rintro e w81 ⟨p, g, c, d, rfl, H, b81⟩
    clear s_VR f_VR z_VR
    have S81 := b81.size
    simp only [World.size_alloc] at S81
    replace VR := VR.kept b81
    replace ha := ha.kept b81
    replace B := thenB B b81
    clear b81
    obtain ⟨s_VR, f_VR, z_VR⟩ := VR.open
    have Bo := B
    have VP := H.v
    rw [hn] at VP
    clear s_VR f_VR z_VR
    obtain ⟨s_VR, f_VR, z_VR⟩ := VR.open
    obtain ⟨s_VP, f_VP, z_VP⟩ := VP.open
    have Bo := B
    have hR1 := (OwnI.lit w81 [(m : Int)] [.int .i64 m] rfl (by unfold maxLen; simp)).rd
    go_wp2_with fail
    refine (CA.out _ _ _ _ _ hR1).mono ?_
    rintro e wq ⟨rfl, rfl⟩
    clear s_VR f_VR z_VR s_VP f_VP z_VP
    replace VR := VR.kept (belowA w81 (.cells #[.int .i64 m] 2))
    replace VP := VP.kept (belowA w81 (.cells #[.int .i64 m] 2))
    replace ha := ha.kept (belowA w81 (.cells #[.int .i64 m] 2))
    replace H := H.kept (belowA w81 (.cells #[.int .i64 m] 2))
    replace B := thenB B (belowA w81 (.cells #[.int .i64 m] 2))
    obtain ⟨s_VR, f_VR, z_VR⟩ := VR.open
    obtain ⟨s_VP, f_VP, z_VP⟩ := VP.open
    have Bo := B
    go_wp2_with fail
    refine (CP.out _ p g c d _ H).mono ?_
    rintro e w82 ⟨g4, d4, k4, rfl, hk, O, b82⟩
    clear s_VR f_VR z_VR s_VP f_VP z_VP
    have S82 := b82.size
    simp only [World.size_alloc] at S82
    replace VR := VR.kept b82
    replace VP := VP.kept b82
    replace ha := ha.kept b82
    replace H := H.kept b82
    replace B := thenB B b82
    clear b82
    obtain ⟨s_VR, f_VR, z_VR⟩ := VR.open
    obtain ⟨s_VP, f_VP, z_VP⟩ := VP.open
    have Bo := B
    have OL := Hid.mk (fun b hb => (O.lt b hb).1)
    replace hk := Hid.mk hk
    clear s_VR f_VR z_VR s_VP f_VP z_VP
    have VF := Hid.mk (VR.filled [.int .i64 0, .slice (some ⟨g4, 0, none⟩) k4 d4] rfl)
    have HT := Hid.mk VR.there
    have BR := belowCells B (show w.heap.size ≤ w.heap.size by (first | omega | (simp; done) | (simp; omega))) 0 [.int .i64 0, .slice (some ⟨g4, 0, none⟩) k4 d4]
    replace BR := Hid.mk BR
    have HO := Hid.mk ((O.mono (show w.heap.size ≤ _ by first | omega | (simp; done) | (simp; omega))).apart1 (B := w.heap.size) (by intro b hb; have := OL.out b hb; first | omega | (simp at this; omega)) 0 [.int .i64 0, .slice (some ⟨g4, 0, none⟩) k4 d4])
    obtain ⟨s_VR, f_VR, z_VR⟩ := VR.open
    obtain ⟨s_VP, f_VP, z_VP⟩ := VP.open
    go_wp2_with (refine wpList_store_mid rfl 40 _ _ rfl (w.heap.size) 0 #[.int .i64 0, .slice (some ⟨g4, 0, none⟩) k4 d4] rfl rfl HT.out (by kernel_rfl) (by kernel_rfl) ?_)
    refine bodyPost_ret (v := .agg #[.int .i64 0, .slice (some ⟨g4, 0, none⟩) k4 d4]) (results_row Tryd.results13 _ _ (w.heap.size) [.int .i64 0, .slice (some ⟨g4, 0, none⟩) k4 d4] _ rfl VF.out Tryd.underlying40 rfl (by kernel_rfl)) rfl ⟨_, d4, k4, rfl, hk.out, HO.out, BR.out⟩

end Go.Proofs.YthjaehcfakjemaaDoor

/- A term moved: what stays the same. -/
namespace Go.Proofs.YthjaehcfakjemaaDoor
open Go.RowKit

theorem plc_a {t : T4} (h : 0 < kids t.o) (h0 : 0 ≤ t.a) : ((t.a.toNat : Nat) : Int) ∈ plc t := by
  have e : ((t.a.toNat : Nat) : Int) = t.a := by omega
  rw [e]; unfold plc
  rcases kids_cases t.o with q | q | q
  · omega
  · rw [q, if_neg (by decide), if_pos rfl]; simp
  · rw [q, if_pos rfl]; simp

theorem plc_b {t : T4} (h : 1 < kids t.o) (h0 : 0 ≤ t.b) : ((t.b.toNat : Nat) : Int) ∈ plc t := by
  have e : ((t.b.toNat : Nat) : Int) = t.b := by omega
  rw [e]; unfold plc
  rcases kids_cases t.o with q | q | q
  · omega
  · omega
  · rw [q, if_pos rfl]; simp

theorem den_rch {xs ys : List T4} (X : Ahead xs) (Y : Ahead ys) {p r : Nat} (hp : p < xs.length) (hr : r < ys.length) (h : den xs p = den ys r) {i : Nat} (hi : Rch ys r i) : ∃ q, q < xs.length ∧ Rch xs p q ∧ den xs q = den ys i := by
  have N := names_of Y
  induction hi with
  | top => exact ⟨p, hp, .top, h⟩
  | @step i j h1 h2 ih =>
    obtain ⟨q, hq, hR, he⟩ := ih
    have hin : i < ys.length := by have := h1.lt N hr; omega
    have ho : (xs.getD q zTerm).o = (ys.getD i zTerm).o := by rw [← den_op q hq X, ← den_op i hin Y, he]
    rw [den_at q hq X, den_at i hin Y] at he
    obtain ⟨qa, qb⟩ := X q hq
    unfold plc at h2
    rcases kids_cases (ys.getD i zTerm).o with hk | hk | hk
    · rw [hk] at h2; simp at h2
    · rw [hk, if_neg (by decide), if_pos rfl, List.mem_singleton] at h2
      rw [mkTr_one (ho ▸ hk), mkTr_one hk] at he
      simp only [Tr.one.injEq] at he
      have ha := qa (by rw [ho, hk]; decide)
      refine ⟨(xs.getD q zTerm).a.toNat, by omega, .step hR (plc_a (by rw [ho, hk]; decide) ha.1), ?_⟩
      rw [he.2, ← h2]; simp
    · rw [hk, if_pos rfl] at h2
      simp only [List.mem_cons, List.not_mem_nil, or_false] at h2
      have ha := qa (by rw [ho, hk]; decide)
      have hb := qb (by rw [ho, hk]; decide)
      have wa : den xs (xs.getD q zTerm).a.toNat = den ys j ∨ den xs (xs.getD q zTerm).b.toNat = den ys j := by
        have ej : den ys j = den ys (ys.getD i zTerm).a.toNat ∨ den ys j = den ys (ys.getD i zTerm).b.toNat := by
          rcases h2 with h2 | h2
          · left; rw [← h2]; simp
          · right; rw [← h2]; simp
        rcases mkTr_two (t := xs.getD q zTerm) (x := den xs (xs.getD q zTerm).a.toNat) (y := den xs (xs.getD q zTerm).b.toNat) (ho ▸ hk) with e1 | e1 <;> rcases mkTr_two (t := ys.getD i zTerm) (x := den ys (ys.getD i zTerm).a.toNat) (y := den ys (ys.getD i zTerm).b.toNat) hk with e2 | e2 <;> rw [e1, e2] at he <;> simp only [Tr.two.injEq] at he <;> obtain ⟨_, f1, f2⟩ := he <;> rcases ej with ej | ej <;> rw [ej] <;> first | exact .inl f1 | exact .inr f2 | exact .inl f2 | exact .inr f1
      rcases wa with wa | wa
      · exact ⟨_, by omega, .step hR (plc_a (by rw [ho, hk]; decide) ha.1), wa⟩
      · exact ⟨_, by omega, .step hR (plc_b (by rw [ho, hk]; decide) hb.1), wa⟩

theorem nodup_sub : ∀ (xs ys : List Tr), xs.Nodup → (∀ x ∈ xs, x ∈ ys) → xs.length ≤ ys.length
  | [], _, _, _ => Nat.zero_le _
  | x :: xs, ys, hd, h => by
    obtain ⟨h1, h2⟩ := List.nodup_cons.1 hd
    have hx := h x (by simp)
    have h3 := List.length_erase_of_mem hx
    have h4 := nodup_sub xs (ys.erase x) h2 (fun y hy => (List.mem_erase_of_ne (fun e => by subst e; exact h1 hy)).2 (h y (by simp [hy])))
    have : 0 < ys.length := List.length_pos_of_mem hx
    simp only [List.length_cons]; omega

/-- The parts of a term, as what they are made of. -/
def prD (xs : List T4) (r : Nat) : List Tr := (prL xs r).map fun z => den xs z.toNat

theorem prD_len (xs : List T4) (r : Nat) : (prD xs r).length = (prL xs r).length := by simp [prD]

theorem prD_nodup {xs : List T4} (hv : tfC xs = 0) {r : Nat} (hr : r < xs.length) : (prD xs r).Nodup := by
  have N := names_of (tfC_ahead hv)
  unfold prD
  rw [List.nodup_iff_pairwise_ne, List.pairwise_map]
  refine (prL_rising xs r).imp_of_mem ?_
  intro a b ha hb hlt e
  obtain ⟨i, rfl, hi⟩ := (prL_mem N hr).1 ha
  obtain ⟨j, rfl, hj⟩ := (prL_mem N hr).1 hb
  have := hi.lt N hr
  have := hj.lt N hr
  rw [Int.toNat_natCast, Int.toNat_natCast] at e
  have := (tfC_nice hv).inj (by omega) (by omega) e
  omega

theorem prD_sub {xs ys : List T4} (hv : tfC xs = 0) (hw : tfC ys = 0) {p r : Nat} (hp : p < xs.length) (hr : r < ys.length) (h : den xs p = den ys r) : ∀ t ∈ prD ys r, t ∈ prD xs p := by
  intro t ht
  unfold prD at ht ⊢
  rw [List.mem_map] at ht ⊢
  obtain ⟨z, hz, rfl⟩ := ht
  obtain ⟨i, rfl, hi⟩ := (prL_mem (names_of (tfC_ahead hw)) hr).1 hz
  obtain ⟨q, hq, hR, he⟩ := den_rch (tfC_ahead hv) (tfC_ahead hw) hp hr h hi
  exact ⟨(q : Int), (prL_mem (names_of (tfC_ahead hv)) hp).2 ⟨q, rfl, hR⟩, by rw [Int.toNat_natCast, Int.toNat_natCast]; exact he⟩

/-- Terms that are made in the same way have as many parts. -/
theorem prL_same {xs ys : List T4} (hv : tfC xs = 0) (hw : tfC ys = 0) {p r : Nat} (hp : p < xs.length) (hr : r < ys.length) (h : den xs p = den ys r) : (prL xs p).length = (prL ys r).length := by
  have h1 := nodup_sub _ _ (prD_nodup hw hr) (prD_sub hv hw hp hr h)
  have h2 := nodup_sub _ _ (prD_nodup hv hp) (prD_sub hw hv hr hp h.symm)
  rw [prD_len, prD_len] at h1 h2
  omega

theorem mvR_right (fr : List T4) : ∀ (zs : List Int) (pl : Int → Int) (tb : List T4), tfC tb = 0 → tfC (mvR fr zs pl tb).tb = 0
  | [], pl, tb, h => h
  | p :: ps, pl, tb, h => by
    rw [mvR]
    split
    · rename_i hc
      exact mvR_right fr ps _ _ (put_right h hc).1
    · exact h

/-- The numbers of a right table. -/
theorem tfC_ok {xs : List T4} (h : tfC xs = 0) : ∀ x ∈ xs, okT x := by
  intro x hx
  obtain ⟨k, hk, e⟩ := List.getElem_of_mem hx
  have e2 : xs.getD k zTerm = x := by simp [List.getD, hk, e]
  have h4 := (tfC_zero h).1
  obtain ⟨h1, h2, h3, ha, hb, h5, _⟩ := tm_zero ((tfC_zero h).2 k hk).1
  obtain ⟨k1, k2⟩ := tfC_ahead h k hk
  rw [e2] at *
  refine ⟨okI_of (by omega) (by omega), ?_, ?_, okI_of (by omega) (by omega)⟩
  · rcases kids_cases x.o with q | q | q
    · have := ha (by omega); exact okI_of (by omega) (by omega)
    · have := k1 (by omega); exact okI_of (by omega) (by omega)
    · have := k1 (by omega); exact okI_of (by omega) (by omega)
  · rcases kids_cases x.o with q | q | q
    · have := hb (by omega); exact okI_of (by omega) (by omega)
    · have := hb (by omega); exact okI_of (by omega) (by omega)
    · have := k2 (by omega); exact okI_of (by omega) (by omega)

/-- A term that was moved: where it stands is right and made in the same way; moved back it is where it was. -/
theorem moves_ways (fr : List T4) (q : Int) (tb : List T4) : (∃ (kc kk : Int) (l : List T4), mvF fr q tb = ⟨kc, kk, l⟩ ∧ kc ≠ 0) ∨
    (∃ (m k kl : Nat) (l : List T4), q = (m : Int) ∧ m < fr.length ∧ mvF fr q tb = ⟨0, (k : Int), l⟩ ∧ l.length = kl ∧ k < kl ∧ kl ≤ 400 ∧ tfC fr = 0 ∧ tfC l = 0 ∧ den fr m = den l k ∧ mvF l (k : Int) fr = ⟨0, q, fr⟩) := by
  by_cases hc : (mvF fr q tb).c = 0
  · right
    rcases mvF_ways fr q tb with ⟨h1, h2⟩ | ⟨_, h1, h2⟩ | ⟨_, _, _, h2⟩ | ⟨h1, h2, h3, h4⟩
    · rw [h2] at hc; exact absurd hc h1
    · rw [h2] at hc; exact absurd hc h1
    · rw [h2] at hc; simp at hc
    · have hb := btw_iff.1 h3
      obtain ⟨m, rfl⟩ := Int.eq_ofNat_of_zero_le hb.1
      have hm : m < fr.length := by omega
      rw [h4] at hc ⊢
      have hl4 := mvP_len (fr := fr) (q := (m : Int)) (tfC_zero h2).1
      unfold mvP at hc hl4 ⊢
      rw [Int.toNat_natCast] at hc hl4 ⊢
      obtain ⟨M, hM⟩ : ∃ M, mvR fr (prL fr m) (fun _ => 0) tb = M := ⟨_, rfl⟩
      have hr := mvR_right fr (prL fr m) (fun _ => 0) tb h2
      rw [hM] at hc hr hl4 ⊢
      by_cases hMc : M.c = 0
      · rw [if_pos hMc] at hl4 ⊢
        have N := names_of (tfC_ahead h1)
        have hmm : (m : Int) ∈ prL fr m := (prL_mem N hm).2 ⟨m, rfl, .top⟩
        rcases mvd_run h1 hm _ 0 (fun _ => 0) tb rfl (Nat.zero_le _) (Mvd.start (tfC_nice h2)) M (by rw [List.drop_zero]; exact hM) with ⟨_, R⟩ | ⟨e, _, _⟩
        · obtain ⟨_, _, k3, k4, k5⟩ := R.leads (m : Int) (by rw [List.take_length]; exact hmm)
          rw [Int.toNat_natCast] at k5
          obtain ⟨k, hk⟩ := Int.eq_ofNat_of_zero_le k3
          rw [hk] at k4 k5
          rw [Int.toNat_natCast] at k5
          have hkl : k < M.tb.length := by omega
          rw [hk]
          refine ⟨m, k, M.tb.length, M.tb, rfl, hm, rfl, rfl, hkl, hl4, h1, hr, k5.symm, ?_⟩
          -- moved back
          have N2 := names_of (tfC_ahead hr)
          have hkk : (k : Int) ∈ prL M.tb k := (prL_mem N2 hkl).2 ⟨k, rfl, .top⟩
          have hall : ∀ z ∈ prL M.tb k, ∃ p, p < fr.length ∧ den fr p = den M.tb z.toNat := by
            intro z hz
            obtain ⟨i, rfl, hi⟩ := (prL_mem N2 hkl).1 hz
            rw [Int.toNat_natCast]
            exact den_sub (tfC_ahead h1) (tfC_ahead hr) hm hkl k5.symm hi
          rcases mvF_ways M.tb (k : Int) fr with ⟨g1, _⟩ | ⟨_, g1, _⟩ | ⟨_, _, g1, _⟩ | ⟨_, _, _, g4⟩
          · exact absurd hr g1
          · exact absurd h1 g1
          · have : btw (k : Int) 0 ((M.tb.length : Int) - 1) = true := btw_iff.2 (by omega)
            rw [this] at g1; cases g1
          · rw [g4]
            unfold mvP
            rw [Int.toNat_natCast]
            obtain ⟨M2, hM2⟩ : ∃ M2, mvR M.tb (prL M.tb k) (fun _ => 0) fr = M2 := ⟨_, rfl⟩
            rw [hM2]
            rcases mvd_run hr hkl _ 0 (fun _ => 0) fr rfl (Nat.zero_le _) (Mvd.start (tfC_nice h1)) M2 (by rw [List.drop_zero]; exact hM2) with ⟨e1, R2⟩ | ⟨_, _, h⟩
            · have es := R2.same hall
              obtain ⟨_, _, j3, j4, j5⟩ := R2.leads (k : Int) (by rw [List.take_length]; exact hkk)
              rw [es] at j4 j5
              rw [Int.toNat_natCast] at j5
              have := (tfC_nice h1).inj (k := (M2.pl (k : Int)).toNat) (k' := m) (by omega) hm (j5.trans k5)
              rw [if_pos e1, es]
              congr 1
              omega
            · exact absurd hall h
        · omega
      · rw [if_neg hMc] at hc; exact absurd hc hMc
  · left
    obtain ⟨P, hP⟩ : ∃ P, mvF fr q tb = P := ⟨_, rfl⟩
    rw [hP] at hc ⊢
    obtain ⟨c, k, l⟩ := P
    exact ⟨c, k, l, rfl, hc⟩

end Go.Proofs.YthjaehcfakjemaaDoor

/- The law on 'PartsOf': its walk. -/
namespace Go.Proofs.YthjaehcfakjemaaDoor
open Go.RowKit

theorem pa_len (xs : List T4) (q : Int) : (paL xs q).length ≤ 400 := by
  rcases pa_ways xs q with ⟨_, h⟩ | ⟨h1, h⟩
  · rw [h]; exact Nat.zero_le _
  · obtain ⟨hv, h2, h3⟩ := ak_zero h1
    have h4 := prL_len xs q.toNat
    have h5 := (tfC_zero hv).1
    rw [h]; omega

theorem implPartsOf_in (kl : Nat) (a : Option Addr) (n ca : Nat) (xs : List T4) (q : Int) (hkl : (paL xs q).length = kl) (w : World) (ha : RdTerm w a xs) (hn : xs.length = n) (hx : n ≤ maxLen) (hok : ∀ t ∈ xs, okT t) :
    Calls Tryd.prog 13 #[.slice a n ca, .int .i64 q] w fun e w' => ∃ c d, e = .returned (.agg #[.int .i64 (akC xs q), .slice c kl d]) ∧ Own .i64 2 w' w.heap.size c d (paL xs q) ∧ Below w.heap.size w w' := by
  refine (implPartsOf_ok a n ca xs q w ha hn hx hok).mono ?_
  rintro e w' ⟨c, d, k, rfl, hk, O, b⟩
  rw [hkl] at hk
  subst hk
  exact ⟨c, d, rfl, O, b⟩

end Go.Proofs.YthjaehcfakjemaaDoor

/- OccursIn: both sides. -/
namespace Go.Proofs.YthjaehcfakjemaaDoor
open Go.RowKit

/-- Whether a term is a part of another. -/
@[irreducible] def occ (xs : List T4) (s b : Int) : Bool := if akC xs s = 0 then (if akC xs b = 0 then inL (prL xs b.toNat) s else false) else false

theorem occ_ways (xs : List T4) (s b : Int) : (akC xs s ≠ 0 ∧ occ xs s b = false) ∨ (akC xs s = 0 ∧ akC xs b ≠ 0 ∧ occ xs s b = false) ∨ (akC xs s = 0 ∧ akC xs b = 0 ∧ occ xs s b = inL (prL xs b.toNat) s) := by
  unfold occ
  by_cases h1 : akC xs s = 0
  · by_cases h2 : akC xs b = 0
    · exact .inr (.inr ⟨h1, h2, by rw [if_pos h1, if_pos h2]⟩)
    · exact .inr (.inl ⟨h1, h2, by rw [if_pos h1, if_neg h2]⟩)
  · exact .inl ⟨h1, by rw [if_neg h1]⟩

theorem prL_range {xs : List T4} {r : Nat} {z : Int} (h : z ∈ prL xs r) : 0 ≤ z ∧ z ≤ r := by
  unfold prL at h
  simp only [List.mem_map, List.mem_filter, List.mem_range] at h
  obtain ⟨i, ⟨h1, _⟩, rfl⟩ := h
  omega

theorem inL_mem {zs : List Int} {v : Int} : inL zs v = true ↔ v ∈ zs := by
  unfold inL
  simp

theorem occ_parts (xs : List T4) (s b : Int) : inL (paL xs b) s = occ xs s b := by
  rcases pa_ways xs b with ⟨h1, h⟩ | ⟨h1, h⟩
  · rw [h]
    rcases occ_ways xs s b with ⟨_, h2⟩ | ⟨_, _, h2⟩ | ⟨_, h3, _⟩
    · rw [h2]; rfl
    · rw [h2]; rfl
    · exact absurd h3 h1
  · rw [h]
    rcases occ_ways xs s b with ⟨h3, h2⟩ | ⟨_, h3, _⟩ | ⟨_, _, h2⟩
    · rw [h2]
      cases hi : inL (prL xs b.toNat) s
      · rfl
      · have hm := prL_range (inL_mem.1 hi)
        obtain ⟨hv, hq0, hq1⟩ := ak_zero h1
        rcases ak_ways xs s with ⟨h4, _⟩ | ⟨_, h4, _⟩ | ⟨_, _, h4⟩
        · exact absurd hv h4
        · have : btw s 0 ((xs.length : Int) - 1) = true := btw_iff.2 ⟨by omega, by omega⟩
          rw [this] at h4; cases h4
        · exact absurd h4 h3
    · exact absurd h1 h3
    · rw [h2]

theorem field_is (k : Int) (c : Option Addr) (n d : Nat) (w : World) : (Instr.field 40 (.agg #[.int .i64 k, .slice c n d]) 1).run Tryd.prog w = .ok (.slice c n d) w := by kernel_rfl

end Go.Proofs.YthjaehcfakjemaaDoor
