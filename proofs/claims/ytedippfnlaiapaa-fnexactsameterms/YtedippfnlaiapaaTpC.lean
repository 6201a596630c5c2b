/- PartsOf: both sides. -/
import Derived.Test.YtedippfnlaiapaaTpA
import Derived.Test.YtedippfnlaiapaaTpB
import Derived.Test.YtedippfnlaiapaaTmT
namespace Go.Proofs.Ytedippfnlaiapaa
open Go.RowKit

theorem Own.apart1 {w : World} {base : Nat} {a : Option Addr} {cap : Nat} {zs : List Int} {B : Nat} (h : Own .i64 2 w base a cap zs) (hB : ∀ b : Addr, a = some b → b.block ≠ B) (o : Nat) (vs : List Value) : Own .i64 2 (w.setCells B o vs) base a cap zs :=
  h.sm (X := fun k => k = B) (Sm.cells (X := fun k => k = B) (B := B) rfl o vs) (fun b hb e => hB b hb e)

theorem build_is0 (k : Int) (w : World) : (Instr.build 58 #[(0, .int .i64 k)]).run Try.prog w = .ok (.agg #[.int .i64 k, .slice none 0 0]) w := run_build w 58 _ _ (by kernel_rfl)

theorem build_is1 (c : Option Addr) (n d : Nat) (w : World) : (Instr.build 58 #[(1, .slice c n d)]).run Try.prog w = .ok (.agg #[.int .i64 0, .slice c n d]) w := run_build w 58 _ _ (by kernel_rfl)

/-- What PartsOf answers beside its code. -/
@[irreducible] def paL (xs : List T4) (q : Int) : List Int := if akC xs q = 0 then prL xs q.toNat else []

theorem pa_ways (xs : List T4) (q : Int) : (akC xs q ≠ 0 ∧ paL xs q = []) ∨ (akC xs q = 0 ∧ paL xs q = prL xs q.toNat) := by
  unfold paL
  by_cases h : akC xs q = 0
  · exact .inr ⟨h, by rw [if_pos h]⟩
  · exact .inl ⟨h, by rw [if_neg h]⟩

theorem pa_ways2 (xs : List T4) (q : Int) : (tfC xs ≠ 0 ∧ akC xs q = tfC xs ∧ paL xs q = []) ∨ (tfC xs = 0 ∧ btw q 0 ((xs.length : Int) - 1) = false ∧ akC xs q = 3 ∧ paL xs q = []) ∨ (tfC xs = 0 ∧ btw q 0 ((xs.length : Int) - 1) = true ∧ akC xs q = 0 ∧ paL xs q = prL xs q.toNat) := by
  have h1 := pa_ways xs q
  rcases ak_ways xs q with ⟨h2, h3⟩ | ⟨h2, h4, h3⟩ | ⟨h2, h4, h3⟩
  · rcases h1 with ⟨_, h⟩ | ⟨h, _⟩
    · exact .inl ⟨h2, h3, h⟩
    · omega
  · rcases h1 with ⟨_, h⟩ | ⟨h, _⟩
    · exact .inr (.inl ⟨h2, h4, h3, h⟩)
    · omega
  · rcases h1 with ⟨h, _⟩ | ⟨_, h⟩
    · omega
    · exact .inr (.inr ⟨h2, h4, h3, h⟩)

set_option maxRecDepth 20000 in
set_option maxHeartbeats 4000000 in
theorem partsOf_ok (base p g : Nat) (c : Option Addr) (d : Nat) (xs : List T4) (n r : Nat) (w : World) (H : Bk w base p g c d xs) (hn : xs.length = n) (hv : tfC xs = 0) (hok : ∀ t ∈ xs, okT t) (hr : r < n) :
    Calls Try.prog 74 #[.pointer (some ⟨p, 0, none⟩), .int .i64 r] w fun e w' => ∃ g4 d4 k4, e = .returned (.slice (some ⟨g4, 0, none⟩) k4 d4) ∧ (prL xs r).length = k4 ∧ Own .i64 2 w' w.heap.size (some ⟨g4, 0, none⟩) d4 (prL xs r) ∧ Below w.heap.size w w' := by
  have VP := H.v
  rw [hn] at VP
  have K : ∀ w' : World, Below w.heap.size w w' → (w'.cell? ⟨p, 0, none⟩ = some (.slice c n d) ∧ w'.cell? ⟨p, 1, none⟩ = some (.map (some g))) := fun w' h => ⟨(VP.kept h).2.1 0 (by simp), (VP.kept h).2.1 1 (by simp)⟩
  have K := Hid.mk K
  have hTc : TM w g (lftM xs []) n := (hn ▸ H.m).eq (fun t _ => by rw [lftM_nil]; rfl)
  have HRd := Hid.mk H.o.rd
  have HOl := Hid.mk H.o.lt
  go_enter Try.func74, Try.ntmps74
  obtain ⟨s_VP, f_VP, z_VP⟩ := VP.open
  go_wp2_with fail
  clear s_VP f_VP z_VP
  refine wp_region_held_drew (S := (fun w' => w'.cell? ⟨p, 0, none⟩ = some (.slice c n d) ∧ w'.cell? ⟨p, 1, none⟩ = some (.map (some g)))) (by kernel_rfl) (K.out _ (Below.refl _ _).drew) (fun hHeld => ?_)
  refine wpAnyH_take (i := 0) (oi := _) (v := ?vpo0) rfl (by kernel_rfl) (by kernel_rfl) (by kernel_rfl) (fun _ _ _ h => h) (Or.inl ⟨by rfl, ?hypo0⟩) hHeld ?restpo0
  case hypo0 => (intro w hSw; (try dsimp only at hSw); go_simp; first | done | with_reducible rfl)
  try simp only [Act.put, List.getElem_toArray, List.getElem_cons_zero, List.setIfInBounds_toArray, List.set_cons_zero, List.set_cons_succ]
  refine wpAnyH_take (i := 1) (oi := _) (v := ?vpo1) rfl (by kernel_rfl) (by kernel_rfl) (by kernel_rfl) (fun _ _ _ h => h) (Or.inl ⟨by rfl, ?hypo1⟩) hHeld ?restpo1
  case hypo1 => (intro w hSw; (try dsimp only at hSw); go_simp; first | done | with_reducible rfl)
  try simp only [Act.put, List.getElem_toArray, List.getElem_cons_zero, List.getElem_cons_succ, List.setIfInBounds_toArray, List.set_cons_zero, List.set_cons_succ]
  refine wpAnyH_take (i := 2) (oi := _) (v := ?vpo2) rfl (by kernel_rfl) (by kernel_rfl) (by kernel_rfl) (fun _ _ _ h => h) (Or.inl ⟨by rfl, ?hypo2⟩) hHeld ?restpo2
  case hypo2 => (intro w hSw; (try dsimp only at hSw); go_simp; first | done | with_reducible rfl)
  try simp only [Act.put, List.getElem_toArray, List.getElem_cons_zero, List.getElem_cons_succ, List.setIfInBounds_toArray, List.set_cons_zero, List.set_cons_succ]
  refine wpAnyH_take (i := 3) (oi := _) (v := ?vpo3) rfl (by kernel_rfl) (by kernel_rfl) (by kernel_rfl) (fun _ _ _ h => h) (Or.inl ⟨by rfl, ?hypo3⟩) hHeld ?restpo3
  case hypo3 => (intro w hSw; (try dsimp only at hSw); go_simp; first | done | with_reducible rfl)
  try simp only [Act.put, List.getElem_toArray, List.getElem_cons_zero, List.getElem_cons_succ, List.setIfInBounds_toArray, List.set_cons_zero, List.set_cons_succ]
  refine wpAnyH_take (i := 4) (oi := _) (v := ?vpo4) rfl (by kernel_rfl) (by kernel_rfl) (by kernel_rfl) (fun _ _ _ h => h) (Or.inl ⟨by rfl, ?hypo4⟩) hHeld ?restpo4
  case hypo4 => (intro w hSw; (try dsimp only at hSw); go_simp; first | done | with_reducible rfl)
  try simp only [Act.put, List.getElem_toArray, List.getElem_cons_zero, List.getElem_cons_succ, List.setIfInBounds_toArray, List.set_cons_zero, List.set_cons_succ]
  refine wpAnyH_take (i := 5) (oi := _) (v := ?vpo5) rfl (by kernel_rfl) (by kernel_rfl) (by kernel_rfl) (fun _ _ _ h => h) (Or.inl ⟨by rfl, ?hypo5⟩) hHeld ?restpo5
  case hypo5 => (intro w hSw; (try dsimp only at hSw); go_simp; first | done | with_reducible rfl)
  try simp only [Act.put, List.getElem_toArray, List.getElem_cons_zero, List.getElem_cons_succ, List.setIfInBounds_toArray, List.set_cons_zero, List.set_cons_succ]
  refine wpAnyH_take (i := 6) (oi := _) (v := ?vpo6) rfl (by kernel_rfl) (by kernel_rfl) (by kernel_rfl) (fun _ _ _ h => h) (Or.inl ⟨by rfl, ?hypo6⟩) hHeld ?restpo6
  case hypo6 => (intro w hSw; (try dsimp only at hSw); go_simp; first | done | with_reducible rfl)
  try simp only [Act.put, List.getElem_toArray, List.getElem_cons_zero, List.getElem_cons_succ, List.setIfInBounds_toArray, List.set_cons_zero, List.set_cons_succ]
  refine wpAnyH_take (i := 7) (oi := _) (v := ?vpo7) rfl (by kernel_rfl) (by kernel_rfl) (by kernel_rfl) (fun _ _ _ h => h) (Or.inl ⟨by rfl, ?hypo7⟩) hHeld ?restpo7
  case hypo7 => (intro w hSw; (try dsimp only at hSw); go_simp; first | done | with_reducible rfl)
  try simp only [Act.put, List.getElem_toArray, List.getElem_cons_zero, List.getElem_cons_succ, List.setIfInBounds_toArray, List.set_cons_zero, List.set_cons_succ]
  refine wpAnyH_take (i := 8) (oi := _) (v := ?vpo8) rfl (by kernel_rfl) (by kernel_rfl) (by kernel_rfl) (fun _ _ _ h => h) (Or.inl ⟨by rfl, ?hypo8⟩) hHeld ?restpo8
  case hypo8 => (intro w hSw; (try dsimp only at hSw); go_simp; first | done | with_reducible rfl)
  try simp only [Act.put, List.getElem_toArray, List.getElem_cons_zero, List.getElem_cons_succ, List.setIfInBounds_toArray, List.set_cons_zero, List.set_cons_succ]
  refine wpAnyH_ready (rs := [9]) (by kernel_rfl) (by simp) ?_
  refine AllReadyH.cons (o := _) rfl (fun K0 hK0 => ?_) AllReadyH.nil
  go_simp
  have hTd := hTc.kept (Below.refl w.heap.size w).drew
  go_at_call 89
  refine (clone_ok g (lftM xs []) n _ hTd).mono ?_
  rintro e w3 ⟨rfl, tmc, b3⟩
  have acc := thenB (Below.refl w.heap.size w).drew b3
  refine hK0.out _ _ (K.out _ acc) (fun hHeld => ?_)
  clear hK0 K0 hTd
  try simp only [Act.put, List.getElem_toArray, List.getElem_cons_zero, List.getElem_cons_succ, List.setIfInBounds_toArray, List.set_cons_zero, List.set_cons_succ]
  refine wpAnyH_ready (rs := [10]) (by kernel_rfl) (by simp) ?_
  refine AllReadyH.cons (o := _) rfl (fun K0 hK0 => ?_) AllReadyH.nil
  go_simp
  have hsz3 := acc.size
  have hlt3 := tmc.lt
  go_at_call 88
  refine (takeParts_ok xs n hn hv hok r [] c d _ n _ hr (HRd.out.kept acc) (fun ad had e => by have h1 := (HOl.out ad had).2; simp [go_sem] at e; omega) tmc).mono ?_
  rintro e w4 ⟨c4, d4, k4, ps, rfl, hk4, hw4, O4, TK, -, S4⟩
  have B4 : Below w.heap.size w w4 := S4.below' acc (by omega) (fun k hk => by rw [hk]; simp [go_sem])
  refine hK0.out _ _ (K.out _ B4) (fun hHeld => ?_)
  clear hK0 K0 tmc b3 S4
  try simp only [Act.put, List.getElem_toArray, List.getElem_cons_zero, List.getElem_cons_succ, List.setIfInBounds_toArray, List.set_cons_zero, List.set_cons_succ]
  refine wpAnyH_take (i := 11) (oi := _) (v := ?vpo11) rfl (by kernel_rfl) (by kernel_rfl) (by kernel_rfl) (fun _ _ _ h => h) (Or.inl ⟨by rfl, ?hypo11⟩) hHeld ?restpo11
  case hypo11 => (intro w hSw; (try dsimp only at hSw); go_simp; first | done | with_reducible rfl)
  try simp only [Act.put, List.getElem_toArray, List.getElem_cons_zero, List.getElem_cons_succ, List.setIfInBounds_toArray, List.set_cons_zero, List.set_cons_succ]
  refine wpAnyH_done (by kernel_rfl) ?_ _
  clear hHeld K
  have HALL := Hid.mk (TK.all (names_of (tfC_ahead hv)) (by omega))
  have hklen := TK.len (names_of (tfC_ahead hv)) (by omega)
  have htop := TK.top
  rw [hk4] at hklen
  have hn4 : n ≤ 400 := by have := (tfC_zero hv).1; omega
  rcases hw4 with ⟨_, _, h0⟩ | ⟨hk0, g4, rfl⟩
  · rw [h0] at hk4
    rw [List.eq_nil_of_length_eq_zero hk4] at htop
    simp at htop
  have hO4 := (O4.lt _ rfl)
  simp only at hO4
  replace O4 := O4.mono (base' := w.heap.size) (by omega)
  have hg4 : w.heap.size ≤ g4 := by omega
  clear htop TK
  go_wp2_with fail
  refine (sort_ok w.heap.size g4 d4 ps k4 _ O4 hk4 (by omega)).mono ?_
  rintro e w5 ⟨rfl, O5, S5⟩
  rw [HALL.out] at O5
  have hlen : (prL xs r).length = k4 := by rw [← HALL.out, srt_len, hk4]
  have B5 : Below w.heap.size w w5 := S5.below' B4 (by have := B4.size; omega) (fun k hk => by rw [hk]; exact hg4)
  replace O5 := Hid.mk O5
  replace hlen := Hid.mk hlen
  go_wp2
  go_ret
  exact ⟨g4, d4, k4, rfl, hlen.out, O5.out, B5⟩

set_option maxRecDepth 20000 in
set_option maxHeartbeats 4000000 in
theorem specPartsOf_ok (a : Option Addr) (n ca : Nat) (xs : List T4) (q : Int) (w : World) (ha : RdTerm w a xs) (hn : xs.length = n) (hx : n ≤ maxLen) (hca : n ≤ ca) (hlow : Hid (∀ b : Addr, a = some b → b.block < w.heap.size)) :
    Calls Try.prog 37 #[.slice a n ca, .int .i64 q] w fun e w' => ∃ c d k, e = .returned (.agg #[.int .i64 (akC xs q), .slice c k d]) ∧ (paL xs q).length = k ∧ Own .i64 2 w' w.heap.size c d (paL xs q) ∧ Below w.heap.size w w' := by
  have q1 := build_is0
  have q2 := build_is1
  have CA := Hid.mk (fun w h => l5Asked_ok a n ca xs q w h hn hx hca)
  rcases pa_ways xs q with ⟨h1, hr⟩ | ⟨h1, hr⟩
  · rw [hr]
    have h2 : (akC xs q != 0) = true := by simp [h1]
    clear hr h1
    generalize akC xs q = kk at *
    go_enter Try.func37, Try.ntmps37
    have B := Below.refl w.heap.size w
    replace ha := ha.kept (belowA w (.cells #[.int .i64 0, .slice none 0 0] 58))
    replace B := thenB B (belowA w (.cells #[.int .i64 0, .slice none 0 0] 58))
    have VR := V.new w [.int .i64 0, .slice none 0 0] 58
    obtain ⟨s_VR, f_VR, z_VR⟩ := VR.open
    have Bo := B
    go_wp2_with fail
    refine (CA.out _ ha).mono ?_
    rintro e w1 ⟨rfl, b1⟩
    clear s_VR f_VR z_VR
    have S1 := b1.size
    simp only [World.size_alloc] at S1
    replace VR := VR.kept b1
    replace ha := ha.kept b1
    replace B := thenB B b1
    clear b1
    obtain ⟨s_VR, f_VR, z_VR⟩ := VR.open
    have Bo := B
    clear s_VR f_VR z_VR
    have VF := Hid.mk (VR.filled [.int .i64 kk, .slice none 0 0] rfl)
    have HT := Hid.mk VR.there
    have BR := belowCells B (show w.heap.size ≤ w.heap.size by (first | omega | (simp; done) | (simp; omega))) 0 [.int .i64 kk, .slice none 0 0]
    replace BR := Hid.mk BR
    obtain ⟨s_VR, f_VR, z_VR⟩ := VR.open
    go_wp2_with (refine wpList_store_mid rfl 58 _ _ rfl (w.heap.size) 0 #[.int .i64 kk, .slice none 0 0] rfl rfl HT.out (by kernel_rfl) (by kernel_rfl) ?_)
    refine bodyPost_ret (v := .agg #[.int .i64 kk, .slice none 0 0]) (results_row Try.results37 _ _ (w.heap.size) [.int .i64 kk, .slice none 0 0] _ rfl VF.out Try.underlying58 rfl (by kernel_rfl)) rfl ⟨none, 0, 0, rfl, rfl, own_none, BR.out⟩
  · rw [hr, h1]
    rw [h1] at CA
    obtain ⟨hv, hq0, hq1⟩ := ak_zero h1
    obtain ⟨m, rfl⟩ : ∃ m : Nat, q = (m : Int) := ⟨q.toNat, by omega⟩
    rw [Int.toNat_natCast]
    have CP := Hid.mk (fun w h hl => l5Parts_ok a n ca xs m w h hn hv (by omega) hl)
    clear hr h1 hq0 hq1 hv
    go_enter Try.func37, Try.ntmps37
    have B := Below.refl w.heap.size w
    replace ha := ha.kept (belowA w (.cells #[.int .i64 0, .slice none 0 0] 58))
    replace B := thenB B (belowA w (.cells #[.int .i64 0, .slice none 0 0] 58))
    have VR := V.new w [.int .i64 0, .slice none 0 0] 58
    obtain ⟨s_VR, f_VR, z_VR⟩ := VR.open
    have Bo := B
    go_wp2_with fail
    refine (CA.out _ ha).mono ?_
    rintro e w21 ⟨rfl, b21⟩
    clear s_VR f_VR z_VR
    have S21 := b21.size
    simp only [World.size_alloc] at S21
    replace VR := VR.kept b21
    replace ha := ha.kept b21
    replace B := thenB B b21
    clear b21
    obtain ⟨s_VR, f_VR, z_VR⟩ := VR.open
    have Bo := B
    go_wp2_with fail
    refine (CP.out _ ha (Hid.mk (fun b hb => by have := hlow.out b hb; have := B.size; omega))).mono ?_
    rintro e w22 ⟨c, d, k, rfl, hk, O, b22⟩
    clear s_VR f_VR z_VR
    have S22 := b22.size
    replace VR := VR.kept b22
    replace ha := ha.kept b22
    replace B := thenB B b22
    clear b22
    obtain ⟨s_VR, f_VR, z_VR⟩ := VR.open
    have Bo := B
    have OL := Hid.mk (fun b hb => (O.lt b hb).1)
    replace hk := Hid.mk hk
    clear s_VR f_VR z_VR
    have VF := Hid.mk (VR.filled [.int .i64 0, .slice c k d] rfl)
    have HT := Hid.mk VR.there
    have BR := belowCells B (show w.heap.size ≤ w.heap.size by (first | omega | (simp; done) | (simp; omega))) 0 [.int .i64 0, .slice c k d]
    replace BR := Hid.mk BR
    have HO := Hid.mk ((O.mono (show w.heap.size ≤ _ by first | omega | (simp; done) | (simp; omega))).apart1 (B := w.heap.size) (by intro b hb; have := OL.out b hb; first | omega | (simp at this; omega)) 0 [.int .i64 0, .slice c k d])
    obtain ⟨s_VR, f_VR, z_VR⟩ := VR.open
    go_wp2_with (refine wpList_store_mid rfl 58 _ _ rfl (w.heap.size) 0 #[.int .i64 0, .slice c k d] rfl rfl HT.out (by kernel_rfl) (by kernel_rfl) ?_)
    refine bodyPost_ret (v := .agg #[.int .i64 0, .slice c k d]) (results_row Try.results37 _ _ (w.heap.size) [.int .i64 0, .slice c k d] _ rfl VF.out Try.underlying58 rfl (by kernel_rfl)) rfl ⟨c, d, k, rfl, hk.out, HO.out, BR.out⟩

set_option maxRecDepth 20000 in
set_option maxHeartbeats 4000000 in
theorem implPartsOf_ok (a : Option Addr) (n ca : Nat) (xs : List T4) (q : Int) (w : World) (ha : RdTerm w a xs) (hn : xs.length = n) (hx : n ≤ maxLen) (hok : ∀ t ∈ xs, okT t) :
    Calls Try.prog 38 #[.slice a n ca, .int .i64 q] w fun e w' => ∃ c d k, e = .returned (.agg #[.int .i64 (akC xs q), .slice c k d]) ∧ (paL xs q).length = k ∧ Own .i64 2 w' w.heap.size c d (paL xs q) ∧ Below w.heap.size w w' := by
  have q1 := build_is0
  have q2 := build_is1
  have HW := pa_ways2 xs q
  rw [hn] at HW
  rcases HW with ⟨h1, he, hr⟩ | ⟨h1, h2, he, hr⟩ | ⟨h1, h2, he, hr⟩
  · rw [hr]
    have h2 : (tfC xs != 0) = true := by simp [h1]
    have CB := Hid.mk (fun w h => bookOf_no a n ca xs w h hn hx hok h1)
    have HE := Hid.mk he
    rw [he]
    clear hr h1 he
    generalize tfC xs = kk at *
    go_enter Try.func38, Try.ntmps38
    have B := Below.refl w.heap.size w
    replace ha := ha.kept (belowA w (.cells #[.int .i64 0, .slice none 0 0] 58))
    replace B := thenB B (belowA w (.cells #[.int .i64 0, .slice none 0 0] 58))
    have VR := V.new w [.int .i64 0, .slice none 0 0] 58
    obtain ⟨s_VR, f_VR, z_VR⟩ := VR.open
    have Bo := B
    go_wp2_with fail
    refine (CB.out _ ha).mono ?_
    rintro e w41 ⟨rfl, b41⟩
    clear s_VR f_VR z_VR
    have S41 := b41.size
    simp only [World.size_alloc] at S41
    replace VR := VR.kept b41
    replace ha := ha.kept b41
    replace B := thenB B b41
    clear b41
    obtain ⟨s_VR, f_VR, z_VR⟩ := VR.open
    have Bo := B
    clear s_VR f_VR z_VR
    have VF := Hid.mk (VR.filled [.int .i64 kk, .slice none 0 0] rfl)
    have HT := Hid.mk VR.there
    have BR := belowCells B (show w.heap.size ≤ w.heap.size by (first | omega | (simp; done) | (simp; omega))) 0 [.int .i64 kk, .slice none 0 0]
    replace BR := Hid.mk BR
    obtain ⟨s_VR, f_VR, z_VR⟩ := VR.open
    go_wp2_with (refine wpList_store_mid rfl 58 _ _ rfl (w.heap.size) 0 #[.int .i64 kk, .slice none 0 0] rfl rfl HT.out (by kernel_rfl) (by kernel_rfl) ?_)
    refine bodyPost_ret (v := .agg #[.int .i64 kk, .slice none 0 0]) (results_row Try.results38 _ _ (w.heap.size) [.int .i64 kk, .slice none 0 0] _ rfl VF.out Try.underlying58 rfl (by kernel_rfl)) rfl ⟨none, 0, 0, rfl, rfl, own_none, BR.out⟩
  · rw [hr, he]
    have CB := Hid.mk (fun w h => bookOf_yes a n ca xs w h hn hx hok h1)
    have CA := Hid.mk (fun w c0 d0 c1 d1 h => arePlaces_ok c0 n d0 c1 1 d1 [q] w h rfl hx (by unfold maxLen; omega))
    rw [plsOk_one, h2] at CA
    clear hr h1 h2 he
    go_enter Try.func38, Try.ntmps38
    have B := Below.refl w.heap.size w
    replace ha := ha.kept (belowA w (.cells #[.int .i64 0, .slice none 0 0] 58))
    replace B := thenB B (belowA w (.cells #[.int .i64 0, .slice none 0 0] 58))
    have VR := V.new w [.int .i64 0, .slice none 0 0] 58
    obtain ⟨s_VR, f_VR, z_VR⟩ := VR.open
    have Bo := B
    go_wp2_with fail
    refine (CB.out _ ha).mono ?_
    rintro e w61 ⟨p, g, c, d, rfl, H, b61⟩
    clear s_VR f_VR z_VR
    have S61 := b61.size
    simp only [World.size_alloc] at S61
    replace VR := VR.kept b61
    replace ha := ha.kept b61
    replace B := thenB B b61
    clear b61
    obtain ⟨s_VR, f_VR, z_VR⟩ := VR.open
    have Bo := B
    have VP := H.v
    rw [hn] at VP
    clear s_VR f_VR z_VR
    obtain ⟨s_VR, f_VR, z_VR⟩ := VR.open
    obtain ⟨s_VP, f_VP, z_VP⟩ := VP.open
    have Bo := B
    have hR1 := (OwnI.lit w61 [q] [.int .i64 q] rfl (by unfold maxLen; simp)).rd
    go_wp2_with fail
    refine (CA.out _ _ _ _ _ hR1).mono ?_
    rintro e wq ⟨rfl, rfl⟩
    clear s_VR f_VR z_VR s_VP f_VP z_VP
    replace VR := VR.kept (belowA w61 (.cells #[.int .i64 q] 2))
    replace VP := VP.kept (belowA w61 (.cells #[.int .i64 q] 2))
    replace ha := ha.kept (belowA w61 (.cells #[.int .i64 q] 2))
    replace H := H.kept (belowA w61 (.cells #[.int .i64 q] 2))
    replace B := thenB B (belowA w61 (.cells #[.int .i64 q] 2))
    obtain ⟨s_VR, f_VR, z_VR⟩ := VR.open
    obtain ⟨s_VP, f_VP, z_VP⟩ := VP.open
    have Bo := B
    clear s_VR f_VR z_VR s_VP f_VP z_VP
    have VF := Hid.mk (VR.filled [.int .i64 3, .slice none 0 0] rfl)
    have HT := Hid.mk VR.there
    have BR := belowCells B (show w.heap.size ≤ w.heap.size by (first | omega | (simp; done) | (simp; omega))) 0 [.int .i64 3, .slice none 0 0]
    replace BR := Hid.mk BR
    obtain ⟨s_VR, f_VR, z_VR⟩ := VR.open
    obtain ⟨s_VP, f_VP, z_VP⟩ := VP.open
    go_wp2_with (refine wpList_store_mid rfl 58 _ _ rfl (w.heap.size) 0 #[.int .i64 3, .slice none 0 0] rfl rfl HT.out (by kernel_rfl) (by kernel_rfl) ?_)
    refine bodyPost_ret (v := .agg #[.int .i64 3, .slice none 0 0]) (results_row Try.results38 _ _ (w.heap.size) [.int .i64 3, .slice none 0 0] _ rfl VF.out Try.underlying58 rfl (by kernel_rfl)) rfl ⟨none, 0, 0, rfl, rfl, own_none, BR.out⟩
  · rw [hr, he]
    have CB := Hid.mk (fun w h => bookOf_yes a n ca xs w h hn hx hok h1)
    have CA := Hid.mk (fun w c0 d0 c1 d1 h => arePlaces_ok c0 n d0 c1 1 d1 [q] w h rfl hx (by unfold maxLen; omega))
    rw [plsOk_one, h2] at CA
    obtain ⟨hq0, hq1⟩ := btw_iff.1 h2
    obtain ⟨m, rfl⟩ : ∃ m : Nat, q = (m : Int) := ⟨q.toNat, by omega⟩
    rw [Int.toNat_natCast]
    have CP := Hid.mk (fun base p g c d w H => partsOf_ok base p g c d xs n m w H hn h1 hok (by omega))
    clear hr h1 h2 hq0 hq1 he
    go_enter Try.func38, Try.ntmps38
    have B := Below.refl w.heap.size w
    replace ha := ha.kept (belowA w (.cells #[.int .i64 0, .slice none 0 0] 58))
    replace B := thenB B (belowA w (.cells #[.int .i64 0, .slice none 0 0] 58))
    have VR := V.new w [.int .i64 0, .slice none 0 0] 58
    obtain ⟨s_VR, f_VR, z_VR⟩ := VR.open
    have Bo := B
    go_wp2_with fail
    refine (CB.out _ ha).mono ?_
    rintro e w81 ⟨p, g, c, d, rfl, H, b81⟩
    clear s_VR f_VR z_VR
    have S81 := b81.size
    simp only [World.size_alloc] at S81
    replace VR := VR.kept b81
    replace ha := ha.kept b81
    replace B := thenB B b81
    clear b81
    obtain ⟨s_VR, f_VR, z_VR⟩ := VR.open
    have Bo := B
    have VP := H.v
    rw [hn] at VP
    clear s_VR f_VR z_VR
    obtain ⟨s_VR, f_VR, z_VR⟩ := VR.open
    obtain ⟨s_VP, f_VP, z_VP⟩ := VP.open
    have Bo := B
    have hR1 := (OwnI.lit w81 [(m : Int)] [.int .i64 m] rfl (by unfold maxLen; simp)).rd
    go_wp2_with fail
    refine (CA.out _ _ _ _ _ hR1).mono ?_
    rintro e wq ⟨rfl, rfl⟩
    clear s_VR f_VR z_VR s_VP f_VP z_VP
    replace VR := VR.kept (belowA w81 (.cells #[.int .i64 m] 2))
    replace VP := VP.kept (belowA w81 (.cells #[.int .i64 m] 2))
    replace ha := ha.kept (belowA w81 (.cells #[.int .i64 m] 2))
    replace H := H.kept (belowA w81 (.cells #[.int .i64 m] 2))
    replace B := thenB B (belowA w81 (.cells #[.int .i64 m] 2))
    obtain ⟨s_VR, f_VR, z_VR⟩ := VR.open
    obtain ⟨s_VP, f_VP, z_VP⟩ := VP.open
    have Bo := B
    go_wp2_with fail
    refine (CP.out _ p g c d _ H).mono ?_
    rintro e w82 ⟨g4, d4, k4, rfl, hk, O, b82⟩
    clear s_VR f_VR z_VR s_VP f_VP z_VP
    have S82 := b82.size
    simp only [World.size_alloc] at S82
    replace VR := VR.kept b82
    replace VP := VP.kept b82
    replace ha := ha.kept b82
    replace H := H.kept b82
    replace B := thenB B b82
    clear b82
    obtain ⟨s_VR, f_VR, z_VR⟩ := VR.open
    obtain ⟨s_VP, f_VP, z_VP⟩ := VP.open
    have Bo := B
    have OL := Hid.mk (fun b hb => (O.lt b hb).1)
    replace hk := Hid.mk hk
    clear s_VR f_VR z_VR s_VP f_VP z_VP
    have VF := Hid.mk (VR.filled [.int .i64 0, .slice (some ⟨g4, 0, none⟩) k4 d4] rfl)
    have HT := Hid.mk VR.there
    have BR := belowCells B (show w.heap.size ≤ w.heap.size by (first | omega | (simp; done) | (simp; omega))) 0 [.int .i64 0, .slice (some ⟨g4, 0, none⟩) k4 d4]
    replace BR := Hid.mk BR
    have HO := Hid.mk ((O.mono (show w.heap.size ≤ _ by first | omega | (simp; done) | (simp; omega))).apart1 (B := w.heap.size) (by intro b hb; have := OL.out b hb; first | omega | (simp at this; omega)) 0 [.int .i64 0, .slice (some ⟨g4, 0, none⟩) k4 d4])
    obtain ⟨s_VR, f_VR, z_VR⟩ := VR.open
    obtain ⟨s_VP, f_VP, z_VP⟩ := VP.open
    go_wp2_with (refine wpList_store_mid rfl 58 _ _ rfl (w.heap.size) 0 #[.int .i64 0, .slice (some ⟨g4, 0, none⟩) k4 d4] rfl rfl HT.out (by kernel_rfl) (by kernel_rfl) ?_)
    refine bodyPost_ret (v := .agg #[.int .i64 0, .slice (some ⟨g4, 0, none⟩) k4 d4]) (results_row Try.results38 _ _ (w.heap.size) [.int .i64 0, .slice (some ⟨g4, 0, none⟩) k4 d4] _ rfl VF.out Try.underlying58 rfl (by kernel_rfl)) rfl ⟨_, d4, k4, rfl, hk.out, HO.out, BR.out⟩

end Go.Proofs.Ytedippfnlaiapaa
