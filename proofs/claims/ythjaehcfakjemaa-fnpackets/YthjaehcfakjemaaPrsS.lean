/- 'ParsePacket' of the model. -/
import Derived.Test.YthjaehcfakjemaaPrsR
import Derived.Test.YthjaehcfakjemaaRev
import Derived.Test.YthjaehcfakjemaaRow
import Derived.Deep.RegionHeld3
import Derived.Deep.DeepCutAuto
namespace Go.Proofs.Ythjaehcfakjemaa
open Go.RowKit

theorem takeN_drop (zs : List Int) (a p m : Nat) : takeN (zs.drop a) p m = takeN zs (a + p) m := by
  simp [takeN, List.getD, List.getElem?_drop, Nat.add_assoc]

theorem hdB_iff {zs : List Int} (hb : Bytes zs) : hdB zs = true ↔ (20 ≤ zs.length ∧ zs.length ≤ 224) ∧ zs.getD 0 0 = 69 ∧ zs.getD 1 0 = 0 ∧ takeN zs 4 4 = 16384 ∧ takeN zs 2 2 = (zs.length : Int) := by
  unfold hdB lowB topB verB nulB mrkB lenB
  simp only [Bool.and_eq_true, decide_eq_true_eq, beq_iff_eq]
  constructor
  · rintro ⟨h1, h2, h3, h4, h5, h6⟩
    exact ⟨⟨by omega, by omega⟩, h3, h4, (mark_iff hb (by omega)).2 h5, h6⟩
  · rintro ⟨⟨h1, h2⟩, h3, h4, h5, h6⟩
    exact ⟨by omega, by omega, h3, h4, (mark_iff hb (by omega)).1 h5, h6⟩

set_option maxHeartbeats 1000000 in
theorem sp_A1 (a : Option Addr) (n ca : Nat) (w : World) (h1 : btw (n : Int) 20 224 = false) :
    Calls Try.prog 8 #[.slice a n ca] w fun e w' => e = .returned (.agg #[.int .i64 5, .int .i64 0, .int .i64 0, .int .i64 0, .int .i64 0, .int .i64 0, .int .i64 0, .slice none 0 0]) ∧ Below w.heap.size w w' := by
    go_enter Try.func8, Try.ntmps8
    have B := Below.refl w.heap.size w
    replace B := thenB B (belowA w (.cells #[.int .i64 0, .int .i64 0, .int .i64 0, .int .i64 0, .int .i64 0, .int .i64 0, .int .i64 0, .slice none 0 0] 28))
    have VR := V.new w [.int .i64 0, .int .i64 0, .int .i64 0, .int .i64 0, .int .i64 0, .int .i64 0, .int .i64 0, .slice none 0 0] 28
    go_wp2_with (first | (go_at_call 24; refine (l1In_ok _ _ _ _).mono ?_; rintro e w9 ⟨rfl, rfl⟩) | fail)
    go_wp2_with fail
    refine (bad_ok 5 _).mono ?_
    rintro e w1 ⟨rfl, b1⟩
    have S1 := b1.size
    simp only [World.size_alloc] at S1
    replace VR := VR.kept b1
    replace B := thenB B b1
    clear b1
    obtain ⟨s_VR, f_VR, z_VR⟩ := VR.open
    go_wp2
    refine bodyPost_ret (v := .agg #[.int .i64 5, .int .i64 0, .int .i64 0, .int .i64 0, .int .i64 0, .int .i64 0, .int .i64 0, .slice none 0 0]) (by simp [results, Try.results8, go_sem, f_VR]) rfl ⟨rfl, ?_⟩
    repeat' first | with_reducible exact B | with_reducible refine Below.setCell ?_ ?_ _ | (simp; try omega)

set_option maxRecDepth 20000 in
set_option maxHeartbeats 2000000 in
theorem sp_A2 (b1 o1 : Nat) (v0 : Int) (n ca : Nat) (zs : List Int) (w : World) (hc : ∀ i, i < zs.length → w.cell? ⟨b1, o1 + i, none⟩ = some (.int .u8 (zs.getD i 0))) (hn : zs.length = n) (hx : n ≤ 1048576) (h1 : btw (n : Int) 20 224 = true) (hg0 : Hid (zs.getD 0 0 = v0)) (h2 : (v0 != 69) = true) :
    Calls Try.prog 8 #[.slice (some ⟨b1, o1, none⟩) n ca] w fun e w' => e = .returned (.agg #[.int .i64 5, .int .i64 0, .int .i64 0, .int .i64 0, .int .i64 0, .int .i64 0, .int .i64 0, .slice none 0 0]) ∧ Below w.heap.size w w' := by
    have hlt1 : b1 < w.heap.size := World.block_lt_of_cell? (a := ⟨b1, o1 + 0, none⟩) w (hc 0 (by have := btw_iff.1 h1; omega))
    have hR := Hid.mk (show Rd .u8 w (some ⟨b1, o1, none⟩) zs from .inr ⟨b1, o1, rfl, hc⟩)
    have h20 := btw_iff.1 h1
    have c0 := (belowA w (.cells #[.int .i64 0, .int .i64 0, .int .i64 0, .int .i64 0, .int .i64 0, .int .i64 0, .int .i64 0, .slice none 0 0] 28)).cell (p := ⟨b1, o1 + 0, none⟩) hlt1
    rw [hc 0 (by omega), hg0.out] at c0
    simp only [Nat.add_zero] at c0
    clear hc
    have k20 : (20 : Int) ≤ (n : Int) := by omega
    have k9 : (9 : Int) < (n : Int) := by omega
    have k8 : (8 : Int) < (n : Int) := by omega
    go_enter Try.func8, Try.ntmps8
    have B := Below.refl w.heap.size w
    replace B := thenB B (belowA w (.cells #[.int .i64 0, .int .i64 0, .int .i64 0, .int .i64 0, .int .i64 0, .int .i64 0, .int .i64 0, .slice none 0 0] 28))
    have VR := V.new w [.int .i64 0, .int .i64 0, .int .i64 0, .int .i64 0, .int .i64 0, .int .i64 0, .int .i64 0, .slice none 0 0] 28
    go_wp2_with (first | (go_at_call 24; refine (l1In_ok _ _ _ _).mono ?_; rintro e w9 ⟨rfl, rfl⟩) | fail)
    go_wp2_with fail
    refine (bad_ok 5 _).mono ?_
    rintro e w1 ⟨rfl, b1⟩
    have S1 := b1.size
    simp only [World.size_alloc] at S1
    replace VR := VR.kept b1
    replace B := thenB B b1
    clear b1
    obtain ⟨s_VR, f_VR, z_VR⟩ := VR.open
    go_wp2
    refine bodyPost_ret (v := .agg #[.int .i64 5, .int .i64 0, .int .i64 0, .int .i64 0, .int .i64 0, .int .i64 0, .int .i64 0, .slice none 0 0]) (by simp [results, Try.results8, go_sem, f_VR]) rfl ⟨rfl, ?_⟩
    repeat' first | with_reducible exact B | with_reducible refine Below.setCell ?_ ?_ _ | (simp; try omega)

set_option maxRecDepth 20000 in
set_option maxHeartbeats 2000000 in
theorem sp_A3 (b1 o1 : Nat) (v0 v1 : Int) (n ca : Nat) (zs : List Int) (w : World) (hc : ∀ i, i < zs.length → w.cell? ⟨b1, o1 + i, none⟩ = some (.int .u8 (zs.getD i 0))) (hn : zs.length = n) (hx : n ≤ 1048576) (h1 : btw (n : Int) 20 224 = true) (hg0 : Hid (zs.getD 0 0 = v0)) (hg1 : Hid (zs.getD 1 0 = v1)) (h2 : (v0 != 69) = false) (h3 : (v1 != 0) = true) :
    Calls Try.prog 8 #[.slice (some ⟨b1, o1, none⟩) n ca] w fun e w' => e = .returned (.agg #[.int .i64 5, .int .i64 0, .int .i64 0, .int .i64 0, .int .i64 0, .int .i64 0, .int .i64 0, .slice none 0 0]) ∧ Below w.heap.size w w' := by
    have hlt1 : b1 < w.heap.size := World.block_lt_of_cell? (a := ⟨b1, o1 + 0, none⟩) w (hc 0 (by have := btw_iff.1 h1; omega))
    have hR := Hid.mk (show Rd .u8 w (some ⟨b1, o1, none⟩) zs from .inr ⟨b1, o1, rfl, hc⟩)
    have h20 := btw_iff.1 h1
    have c0 := (belowA w (.cells #[.int .i64 0, .int .i64 0, .int .i64 0, .int .i64 0, .int .i64 0, .int .i64 0, .int .i64 0, .slice none 0 0] 28)).cell (p := ⟨b1, o1 + 0, none⟩) hlt1
    rw [hc 0 (by omega), hg0.out] at c0
    have c1 := (belowA w (.cells #[.int .i64 0, .int .i64 0, .int .i64 0, .int .i64 0, .int .i64 0, .int .i64 0, .int .i64 0, .slice none 0 0] 28)).cell (p := ⟨b1, o1 + 1, none⟩) hlt1
    rw [hc 1 (by omega), hg1.out] at c1
    simp only [Nat.add_zero] at c0
    clear hc
    have k20 : (20 : Int) ≤ (n : Int) := by omega
    have k9 : (9 : Int) < (n : Int) := by omega
    have k8 : (8 : Int) < (n : Int) := by omega
    go_enter Try.func8, Try.ntmps8
    have B := Below.refl w.heap.size w
    replace B := thenB B (belowA w (.cells #[.int .i64 0, .int .i64 0, .int .i64 0, .int .i64 0, .int .i64 0, .int .i64 0, .int .i64 0, .slice none 0 0] 28))
    have VR := V.new w [.int .i64 0, .int .i64 0, .int .i64 0, .int .i64 0, .int .i64 0, .int .i64 0, .int .i64 0, .slice none 0 0] 28
    go_wp2_with (first | (go_at_call 24; refine (l1In_ok _ _ _ _).mono ?_; rintro e w9 ⟨rfl, rfl⟩) | fail)
    go_wp2_with fail
    refine (bad_ok 5 _).mono ?_
    rintro e w1 ⟨rfl, b1⟩
    have S1 := b1.size
    simp only [World.size_alloc] at S1
    replace VR := VR.kept b1
    replace B := thenB B b1
    clear b1
    obtain ⟨s_VR, f_VR, z_VR⟩ := VR.open
    go_wp2
    refine bodyPost_ret (v := .agg #[.int .i64 5, .int .i64 0, .int .i64 0, .int .i64 0, .int .i64 0, .int .i64 0, .int .i64 0, .slice none 0 0]) (by simp [results, Try.results8, go_sem, f_VR]) rfl ⟨rfl, ?_⟩
    repeat' first | with_reducible exact B | with_reducible refine Below.setCell ?_ ?_ _ | (simp; try omega)

set_option maxRecDepth 20000 in
set_option maxHeartbeats 2000000 in
theorem sp_A4 (b1 o1 : Nat) (v0 v1 q4 : Int) (n ca : Nat) (zs : List Int) (w : World) (hc : ∀ i, i < zs.length → w.cell? ⟨b1, o1 + i, none⟩ = some (.int .u8 (zs.getD i 0))) (hb : Bytes zs) (hn : zs.length = n) (hx : n ≤ 1048576) (h1 : btw (n : Int) 20 224 = true) (hg0 : Hid (zs.getD 0 0 = v0)) (hg1 : Hid (zs.getD 1 0 = v1)) (hg4 : Hid (takeN zs 4 4 = q4)) (h2 : (v0 != 69) = false) (h3 : (v1 != 0) = false) (h4 : (q4 != 16384) = true) :
    Calls Try.prog 8 #[.slice (some ⟨b1, o1, none⟩) n ca] w fun e w' => e = .returned (.agg #[.int .i64 5, .int .i64 0, .int .i64 0, .int .i64 0, .int .i64 0, .int .i64 0, .int .i64 0, .slice none 0 0]) ∧ Below w.heap.size w w' := by
    have hlt1 : b1 < w.heap.size := World.block_lt_of_cell? (a := ⟨b1, o1 + 0, none⟩) w (hc 0 (by have := btw_iff.1 h1; omega))
    have hR := Hid.mk (show Rd .u8 w (some ⟨b1, o1, none⟩) zs from .inr ⟨b1, o1, rfl, hc⟩)
    have h20 := btw_iff.1 h1
    have c0 := (belowA w (.cells #[.int .i64 0, .int .i64 0, .int .i64 0, .int .i64 0, .int .i64 0, .int .i64 0, .int .i64 0, .slice none 0 0] 28)).cell (p := ⟨b1, o1 + 0, none⟩) hlt1
    rw [hc 0 (by omega), hg0.out] at c0
    have c1 := (belowA w (.cells #[.int .i64 0, .int .i64 0, .int .i64 0, .int .i64 0, .int .i64 0, .int .i64 0, .int .i64 0, .slice none 0 0] 28)).cell (p := ⟨b1, o1 + 1, none⟩) hlt1
    rw [hc 1 (by omega), hg1.out] at c1
    simp only [Nat.add_zero] at c0
    clear hc
    have k20 : (20 : Int) ≤ (n : Int) := by omega
    have k9 : (9 : Int) < (n : Int) := by omega
    have k8 : (8 : Int) < (n : Int) := by omega
    go_enter Try.func8, Try.ntmps8
    have B := Below.refl w.heap.size w
    replace B := thenB B (belowA w (.cells #[.int .i64 0, .int .i64 0, .int .i64 0, .int .i64 0, .int .i64 0, .int .i64 0, .int .i64 0, .slice none 0 0] 28))
    have VR := V.new w [.int .i64 0, .int .i64 0, .int .i64 0, .int .i64 0, .int .i64 0, .int .i64 0, .int .i64 0, .slice none 0 0] 28
    go_wp2_with (first | (go_at_call 24; refine (l1In_ok _ _ _ _).mono ?_; rintro e w9 ⟨rfl, rfl⟩) | fail)
    refine (l1Take_ok (some ⟨b1, o1, none⟩) n ca 4 4 zs _ (hR.out.kept B) hb hn (by unfold maxLen; omega) (by decide) (by omega)).mono ?_
    rintro e w1 ⟨rfl, b1⟩
    have S1 := b1.size
    simp only [World.size_alloc] at S1
    replace VR := VR.kept b1
    replace B := thenB B b1
    clear b1
    rw [hg4.out]
    go_wp2_with fail
    refine (bad_ok 5 _).mono ?_
    rintro e w2 ⟨rfl, b2⟩
    have S2 := b2.size
    replace VR := VR.kept b2
    replace B := thenB B b2
    clear b2
    obtain ⟨s_VR, f_VR, z_VR⟩ := VR.open
    go_wp2
    refine bodyPost_ret (v := .agg #[.int .i64 5, .int .i64 0, .int .i64 0, .int .i64 0, .int .i64 0, .int .i64 0, .int .i64 0, .slice none 0 0]) (by simp [results, Try.results8, go_sem, f_VR]) rfl ⟨rfl, ?_⟩
    repeat' first | with_reducible exact B | with_reducible refine Below.setCell ?_ ?_ _ | (simp; try omega)

set_option maxRecDepth 20000 in
set_option maxHeartbeats 2000000 in
theorem sp_A5 (b1 o1 : Nat) (v0 v1 q4 q2 : Int) (n ca : Nat) (zs : List Int) (w : World) (hc : ∀ i, i < zs.length → w.cell? ⟨b1, o1 + i, none⟩ = some (.int .u8 (zs.getD i 0))) (hb : Bytes zs) (hn : zs.length = n) (hx : n ≤ 1048576) (h1 : btw (n : Int) 20 224 = true) (hg0 : Hid (zs.getD 0 0 = v0)) (hg1 : Hid (zs.getD 1 0 = v1)) (hg4 : Hid (takeN zs 4 4 = q4)) (hg2 : Hid (takeN zs 2 2 = q2)) (h2 : (v0 != 69) = false) (h3 : (v1 != 0) = false) (h4 : (q4 != 16384) = false) (h5 : (q2 != (n : Int)) = true) :
    Calls Try.prog 8 #[.slice (some ⟨b1, o1, none⟩) n ca] w fun e w' => e = .returned (.agg #[.int .i64 5, .int .i64 0, .int .i64 0, .int .i64 0, .int .i64 0, .int .i64 0, .int .i64 0, .slice none 0 0]) ∧ Below w.heap.size w w' := by
    have hlt1 : b1 < w.heap.size := World.block_lt_of_cell? (a := ⟨b1, o1 + 0, none⟩) w (hc 0 (by have := btw_iff.1 h1; omega))
    have hR := Hid.mk (show Rd .u8 w (some ⟨b1, o1, none⟩) zs from .inr ⟨b1, o1, rfl, hc⟩)
    have h20 := btw_iff.1 h1
    have c0 := (belowA w (.cells #[.int .i64 0, .int .i64 0, .int .i64 0, .int .i64 0, .int .i64 0, .int .i64 0, .int .i64 0, .slice none 0 0] 28)).cell (p := ⟨b1, o1 + 0, none⟩) hlt1
    rw [hc 0 (by omega), hg0.out] at c0
    have c1 := (belowA w (.cells #[.int .i64 0, .int .i64 0, .int .i64 0, .int .i64 0, .int .i64 0, .int .i64 0, .int .i64 0, .slice none 0 0] 28)).cell (p := ⟨b1, o1 + 1, none⟩) hlt1
    rw [hc 1 (by omega), hg1.out] at c1
    simp only [Nat.add_zero] at c0
    clear hc
    have k20 : (20 : Int) ≤ (n : Int) := by omega
    have k9 : (9 : Int) < (n : Int) := by omega
    have k8 : (8 : Int) < (n : Int) := by omega
    go_enter Try.func8, Try.ntmps8
    have B := Below.refl w.heap.size w
    replace B := thenB B (belowA w (.cells #[.int .i64 0, .int .i64 0, .int .i64 0, .int .i64 0, .int .i64 0, .int .i64 0, .int .i64 0, .slice none 0 0] 28))
    have VR := V.new w [.int .i64 0, .int .i64 0, .int .i64 0, .int .i64 0, .int .i64 0, .int .i64 0, .int .i64 0, .slice none 0 0] 28
    go_wp2_with (first | (go_at_call 24; refine (l1In_ok _ _ _ _).mono ?_; rintro e w9 ⟨rfl, rfl⟩) | fail)
    refine (l1Take_ok (some ⟨b1, o1, none⟩) n ca 4 4 zs _ (hR.out.kept B) hb hn (by unfold maxLen; omega) (by decide) (by omega)).mono ?_
    rintro e w1 ⟨rfl, b1⟩
    have S1 := b1.size
    simp only [World.size_alloc] at S1
    replace VR := VR.kept b1
    replace B := thenB B b1
    clear b1
    rw [hg4.out]
    go_wp2_with fail
    refine (l1Take_ok (some ⟨b1, o1, none⟩) n ca 2 2 zs _ (hR.out.kept B) hb hn (by unfold maxLen; omega) (by decide) (by omega)).mono ?_
    rintro e w2 ⟨rfl, b2⟩
    have S2 := b2.size
    replace VR := VR.kept b2
    replace B := thenB B b2
    clear b2
    rw [hg2.out]
    go_wp2_with fail
    refine (bad_ok 5 _).mono ?_
    rintro e w3 ⟨rfl, b3⟩
    have S3 := b3.size
    replace VR := VR.kept b3
    replace B := thenB B b3
    clear b3
    obtain ⟨s_VR, f_VR, z_VR⟩ := VR.open
    go_wp2
    refine bodyPost_ret (v := .agg #[.int .i64 5, .int .i64 0, .int .i64 0, .int .i64 0, .int .i64 0, .int .i64 0, .int .i64 0, .slice none 0 0]) (by simp [results, Try.results8, go_sem, f_VR]) rfl ⟨rfl, ?_⟩
    repeat' first | with_reducible exact B | with_reducible refine Below.setCell ?_ ?_ _ | (simp; try omega)

set_option maxRecDepth 20000 in
set_option maxHeartbeats 2000000 in
theorem sp_B (b1 o1 : Nat) (v0 v1 q4 q2 : Int) (n ca : Nat) (zs : List Int) (w : World) (hc : ∀ i, i < zs.length → w.cell? ⟨b1, o1 + i, none⟩ = some (.int .u8 (zs.getD i 0))) (hb : Bytes zs) (hn : zs.length = n) (hx : n ≤ 1048576) (h1 : btw (n : Int) 20 224 = true) (hg0 : Hid (zs.getD 0 0 = v0)) (hg1 : Hid (zs.getD 1 0 = v1)) (hg4 : Hid (takeN zs 4 4 = q4)) (hg2 : Hid (takeN zs 2 2 = q2)) (h2 : (v0 != 69) = false) (h3 : (v1 != 0) = false) (h4 : (q4 != 16384) = false) (h5 : (q2 != (n : Int)) = false) (hca : n ≤ ca) (hs : (sumWords (zs.take 20) == 0) = false) :
    Calls Try.prog 8 #[.slice (some ⟨b1, o1, none⟩) n ca] w fun e w' => e = .returned (.agg #[.int .i64 6, .int .i64 0, .int .i64 0, .int .i64 0, .int .i64 0, .int .i64 0, .int .i64 0, .slice none 0 0]) ∧ Below w.heap.size w w' := by
    have hlt1 : b1 < w.heap.size := World.block_lt_of_cell? (a := ⟨b1, o1 + 0, none⟩) w (hc 0 (by have := btw_iff.1 h1; omega))
    have hR := Hid.mk (show Rd .u8 w (some ⟨b1, o1, none⟩) zs from .inr ⟨b1, o1, rfl, hc⟩)
    have h20 := btw_iff.1 h1
    have c0 := (belowA w (.cells #[.int .i64 0, .int .i64 0, .int .i64 0, .int .i64 0, .int .i64 0, .int .i64 0, .int .i64 0, .slice none 0 0] 28)).cell (p := ⟨b1, o1 + 0, none⟩) hlt1
    rw [hc 0 (by omega), hg0.out] at c0
    have c1 := (belowA w (.cells #[.int .i64 0, .int .i64 0, .int .i64 0, .int .i64 0, .int .i64 0, .int .i64 0, .int .i64 0, .slice none 0 0] 28)).cell (p := ⟨b1, o1 + 1, none⟩) hlt1
    rw [hc 1 (by omega), hg1.out] at c1
    simp only [Nat.add_zero] at c0
    clear hc
    have k20 : (20 : Int) ≤ (n : Int) := by omega
    have k9 : (9 : Int) < (n : Int) := by omega
    have k8 : (8 : Int) < (n : Int) := by omega
    go_enter Try.func8, Try.ntmps8
    have B := Below.refl w.heap.size w
    replace B := thenB B (belowA w (.cells #[.int .i64 0, .int .i64 0, .int .i64 0, .int .i64 0, .int .i64 0, .int .i64 0, .int .i64 0, .slice none 0 0] 28))
    have VR := V.new w [.int .i64 0, .int .i64 0, .int .i64 0, .int .i64 0, .int .i64 0, .int .i64 0, .int .i64 0, .slice none 0 0] 28
    go_wp2_with (first | (go_at_call 24; refine (l1In_ok _ _ _ _).mono ?_; rintro e w9 ⟨rfl, rfl⟩) | fail)
    refine (l1Take_ok (some ⟨b1, o1, none⟩) n ca 4 4 zs _ (hR.out.kept B) hb hn (by unfold maxLen; omega) (by decide) (by omega)).mono ?_
    rintro e w1 ⟨rfl, b1⟩
    have S1 := b1.size
    simp only [World.size_alloc] at S1
    replace VR := VR.kept b1
    replace B := thenB B b1
    clear b1
    rw [hg4.out]
    go_wp2_with fail
    refine (l1Take_ok (some ⟨b1, o1, none⟩) n ca 2 2 zs _ (hR.out.kept B) hb hn (by unfold maxLen; omega) (by decide) (by omega)).mono ?_
    rintro e w2 ⟨rfl, b2⟩
    have S2 := b2.size
    replace VR := VR.kept b2
    replace B := thenB B b2
    clear b2
    rw [hg2.out]
    have hl20 := Hid.mk (show (zs.take 20).length = 20 by simp; omega)
    have kc20 : (20 : Int) ≤ (ca : Int) := by omega
    go_wp2_with fail
    refine (specCheckWords_ok (some ⟨b1, o1, none⟩) 20 ca (zs.take 20) _ ((hR.out.kept B).take 20) (bytes_take hb 20) hl20.out (by omega)).mono ?_
    rintro e w3 ⟨rfl, b3⟩
    have S3 := b3.size
    replace VR := VR.kept b3
    replace B := thenB B b3
    clear b3
    rw [hs]
    go_wp2_with fail
    refine (bad_ok 6 _).mono ?_
    rintro e w4 ⟨rfl, b4⟩
    have S4 := b4.size
    replace VR := VR.kept b4
    replace B := thenB B b4
    clear b4
    obtain ⟨s_VR, f_VR, z_VR⟩ := VR.open
    go_wp2
    refine bodyPost_ret (v := .agg #[.int .i64 6, .int .i64 0, .int .i64 0, .int .i64 0, .int .i64 0, .int .i64 0, .int .i64 0, .slice none 0 0]) (by simp [results, Try.results8, go_sem, f_VR]) rfl ⟨rfl, ?_⟩
    repeat' first | with_reducible exact B | with_reducible refine Below.setCell ?_ ?_ _ | (simp; try omega)

set_option maxRecDepth 20000 in
set_option maxHeartbeats 2000000 in
theorem sp_rest (b1 o1 : Nat) (v0 v1 q4 q2 F T r l k' F' T' r' l' x' y' : Int) (ys : List Int) (m : Nat) (n ca : Nat) (zs : List Int) (w : World) (hc : ∀ i, i < zs.length → w.cell? ⟨b1, o1 + i, none⟩ = some (.int .u8 (zs.getD i 0))) (hb : Bytes zs) (hn : zs.length = n) (hx : n ≤ 1048576) (h1 : btw (n : Int) 20 224 = true) (hg0 : Hid (zs.getD 0 0 = v0)) (hg1 : Hid (zs.getD 1 0 = v1)) (hg4 : Hid (takeN zs 4 4 = q4)) (hg2 : Hid (takeN zs 2 2 = q2)) (h2 : (v0 != 69) = false) (h3 : (v1 != 0) = false) (h4 : (q4 != 16384) = false) (h5 : (q2 != (n : Int)) = false) (hca : n ≤ ca) (hs : (sumWords (zs.take 20) == 0) = true) (hgF : Hid (takeN zs 12 4 = F)) (hgT : Hid (takeN zs 16 4 = T)) (hgr : Hid (zs.getD 9 0 = r)) (hgl : Hid (zs.getD 8 0 = l)) (hh : hdB zs = true) (hI : Hid (psIs zs k' F' T' r' l' x' y' ys)) (hm : Hid (ys.length = m)) :
    Calls Try.prog 8 #[.slice (some ⟨b1, o1, none⟩) n ca] w fun e w' => ∃ c d, e = .returned (psAns k' F' T' r' l' x' y' m c d) ∧ Own .u8 5 w' w.heap.size c d ys ∧ Below w.heap.size w w' := by
    have d9 : w.cell? ⟨b1, o1 + 9, none⟩ = some (.int .u8 r) := by rw [hc 9 (by have := btw_iff.1 h1; omega), hgr.out]
    have d8 : w.cell? ⟨b1, o1 + 8, none⟩ = some (.int .u8 l) := by rw [hc 8 (by have := btw_iff.1 h1; omega), hgl.out]
    obtain ⟨i0, hi, j0, j1, j2⟩ := info_parts Try.info_u8
    have hb9 : 0 ≤ r ∧ r < 256 := by have h := hb.at 9; rw [hgr.out] at h; exact h
    have hb8 : 0 ≤ l ∧ l < 256 := by have h := hb.at 8; rw [hgl.out] at h; exact h
    have wr9 : IntKind.i64.wrap r = r := IntWalk.i64_in _ ⟨by omega, by omega⟩
    have wl8 : IntKind.i64.wrap l = l := IntWalk.i64_in _ ⟨by omega, by omega⟩
    have hlt1 : b1 < w.heap.size := World.block_lt_of_cell? (a := ⟨b1, o1 + 0, none⟩) w (hc 0 (by have := btw_iff.1 h1; omega))
    have hR := Hid.mk (show Rd .u8 w (some ⟨b1, o1, none⟩) zs from .inr ⟨b1, o1, rfl, hc⟩)
    have h20 := btw_iff.1 h1
    have c0 := (belowA w (.cells #[.int .i64 0, .int .i64 0, .int .i64 0, .int .i64 0, .int .i64 0, .int .i64 0, .int .i64 0, .slice none 0 0] 28)).cell (p := ⟨b1, o1 + 0, none⟩) hlt1
    rw [hc 0 (by omega), hg0.out] at c0
    have c1 := (belowA w (.cells #[.int .i64 0, .int .i64 0, .int .i64 0, .int .i64 0, .int .i64 0, .int .i64 0, .int .i64 0, .slice none 0 0] 28)).cell (p := ⟨b1, o1 + 1, none⟩) hlt1
    rw [hc 1 (by omega), hg1.out] at c1
    simp only [Nat.add_zero] at c0
    clear hc
    have k20 : (20 : Int) ≤ (n : Int) := by omega
    have k9 : (9 : Int) < (n : Int) := by omega
    have k8 : (8 : Int) < (n : Int) := by omega
    go_enter Try.func8, Try.ntmps8
    have B := Below.refl w.heap.size w
    replace B := thenB B (belowA w (.cells #[.int .i64 0, .int .i64 0, .int .i64 0, .int .i64 0, .int .i64 0, .int .i64 0, .int .i64 0, .slice none 0 0] 28))
    have VR := V.new w [.int .i64 0, .int .i64 0, .int .i64 0, .int .i64 0, .int .i64 0, .int .i64 0, .int .i64 0, .slice none 0 0] 28
    go_wp2_with (first | (go_at_call 24; refine (l1In_ok _ _ _ _).mono ?_; rintro e w9 ⟨rfl, rfl⟩) | fail)
    refine (l1Take_ok (some ⟨b1, o1, none⟩) n ca 4 4 zs _ (hR.out.kept B) hb hn (by unfold maxLen; omega) (by decide) (by omega)).mono ?_
    rintro e w1 ⟨rfl, b1⟩
    have S1 := b1.size
    simp only [World.size_alloc] at S1
    replace VR := VR.kept b1
    replace B := thenB B b1
    clear b1
    rw [hg4.out]
    go_wp2_with fail
    refine (l1Take_ok (some ⟨b1, o1, none⟩) n ca 2 2 zs _ (hR.out.kept B) hb hn (by unfold maxLen; omega) (by decide) (by omega)).mono ?_
    rintro e w2 ⟨rfl, b2⟩
    have S2 := b2.size
    replace VR := VR.kept b2
    replace B := thenB B b2
    clear b2
    rw [hg2.out]
    have hl20 := Hid.mk (show (zs.take 20).length = 20 by simp; omega)
    have kc20 : (20 : Int) ≤ (ca : Int) := by omega
    go_wp2_with fail
    refine (specCheckWords_ok (some ⟨b1, o1, none⟩) 20 ca (zs.take 20) _ ((hR.out.kept B).take 20) (bytes_take hb 20) hl20.out (by omega)).mono ?_
    rintro e w3 ⟨rfl, b3⟩
    have S3 := b3.size
    replace VR := VR.kept b3
    replace B := thenB B b3
    clear b3
    rw [hs]
    have K : ∀ w' : World, Below w3.heap.size w3 w' → (w'.cell? ⟨b1, o1 + 9, none⟩ = some (.int .u8 r) ∧ w'.cell? ⟨b1, o1 + 8, none⟩ = some (.int .u8 l)) := fun w' h => ⟨(((thenB B h).cell (p := ⟨b1, o1 + 9, none⟩) hlt1).trans d9), (((thenB B h).cell (p := ⟨b1, o1 + 8, none⟩) hlt1).trans d8)⟩
    have K := Hid.mk K
    go_upto_region 6 with fail
    go_cut [4] (fun p wx => ∃ P, p = .pointer (some ⟨P, 0, none⟩) ∧ V wx P [.int .i64 (takeN zs 12 4), .int .i64 (takeN zs 16 4), .int .i64 r, .int .i64 l, .int .i64 0, .int .i64 0, .slice none 0 0] ∧ V wx w.heap.size [.int .i64 0, .int .i64 0, .int .i64 0, .int .i64 0, .int .i64 0, .int .i64 0, .int .i64 0, .slice none 0 0] ∧ Below w.heap.size w wx ∧ w.heap.size < P)
    case first =>
      go_region_held3 (fun w' => w'.cell? ⟨b1, o1 + 9, none⟩ = some (.int .u8 r) ∧ w'.cell? ⟨b1, o1 + 8, none⟩ = some (.int .u8 l)) ((refine K.out _ ?_; (repeat' first | with_reducible exact Below.refl _ _ | with_reducible refine Below.drew ?_ | with_reducible refine Below.setCell ?_ ?_ _ | with_reducible refine thenB ?_ bb | with_reducible refine thenB ?_ ba | with_reducible refine thenB ?_ (belowA _ _) | (simp; try omega)))) (first | (go_at_call 25; have hz := ba; clear hz; refine (l1Take_ok (some ⟨b1, o1, none⟩) n ca 16 4 zs _ (hR.out.kept (by refine thenB B ?_; (repeat' first | with_reducible exact Below.refl _ _ | with_reducible refine Below.drew ?_ | with_reducible refine Below.setCell ?_ ?_ _ | with_reducible refine thenB ?_ bb | with_reducible refine thenB ?_ ba | with_reducible refine thenB ?_ (belowA _ _) | (simp; try omega)))) hb hn (by unfold maxLen; omega) (by decide) (by omega)).mono ?_; rintro e wb ⟨rfl, bb⟩; obtain ⟨hcb, hfb⟩ := bcell bb; have hsb := bb.size; (try simp at hsb); (try have hsb' := Nat.lt_of_succ_le hsb)) | (go_at_call 25; refine (l1Take_ok (some ⟨b1, o1, none⟩) n ca 12 4 zs _ (hR.out.kept (by refine thenB B ?_; (repeat' first | with_reducible exact Below.refl _ _ | with_reducible refine Below.drew ?_ | with_reducible refine Below.setCell ?_ ?_ _ | with_reducible refine thenB ?_ bb | with_reducible refine thenB ?_ ba | with_reducible refine thenB ?_ (belowA _ _) | (simp; try omega)))) hb hn (by unfold maxLen; omega) (by decide) (by omega)).mono ?_; rintro e wa ⟨rfl, ba⟩; obtain ⟨hca', hfa⟩ := bcell ba; have hsa := ba.size; (try simp at hsa); (try have hsa' := Nat.lt_of_succ_le hsa)))
      all_goals
        go_wp2_with fail
        go_meet
        have hvr := VR.1
        refine ⟨_, rfl, ?_, ?_, ?_, ?_⟩
        · first | with_reducible exact V.new _ _ _ | with_reducible exact V.fill7 ((V.new wa _ _).kept bb) _ _ _ _ _ _ _ | with_reducible exact V.fill7 ((((V.new w3 _ _).kept (Below.refl _ _).drew).kept ba).kept bb) _ _ _ _ _ _ _
        · refine VR.kept ?_
          repeat' first | with_reducible exact Below.refl _ _ | with_reducible refine Below.drew ?_ | with_reducible refine Below.setCell ?_ ?_ _ | with_reducible refine thenB ?_ bb | with_reducible refine thenB ?_ ba | with_reducible refine thenB ?_ (belowA _ _) | (simp; try omega)
        · refine thenB B ?_
          repeat' first | with_reducible exact Below.refl _ _ | with_reducible refine Below.drew ?_ | with_reducible refine Below.setCell ?_ ?_ _ | with_reducible refine thenB ?_ bb | with_reducible refine thenB ?_ ba | with_reducible refine thenB ?_ (belowA _ _) | (simp; try omega)
        · first | exact hvr | omega
    case rest =>
      clear VR B K
      obtain ⟨P, rfl, VP, VR, B, hP⟩ := hcut
      rw [hgF.out, hgT.out] at VP
      rcases ps_cases zs with ⟨q1, _⟩ | ⟨q1, q2, _⟩ | ⟨q1, q2, q3, qr⟩ | ⟨q1, q2, q3, q4', qr⟩ | ⟨q1, q2, q3, q4', q5, q6, qr⟩ | ⟨q1, q2, q3, q4', q5, q6, qr⟩ | ⟨q1, q2, q3, q4', q5, q6, qr⟩ | ⟨q1, q2, q3, q4', q5, q6, qr⟩
      · rw [hh] at q1; cases q1
      · rw [hs] at q2; cases q2
      · skip
        rw [hgl.out] at q3
        obtain ⟨rfl, rfl, rfl, rfl, rfl, rfl, rfl, rfl⟩ := psIs_inj hI.out (psIs_no qr.out (by decide))
        obtain rfl : m = 0 := by have := hm.out; simpa using this.symm
        clear hI hm qr
        have hl0 : (l == 0) = true := by simpa using q3
        obtain ⟨s_VP, f_VP, z_VP⟩ := VP.open
        go_wp2_with (first | (go_at_call 28; refine (specHasPorts_ok _ _).mono ?_; rintro e wc ⟨rfl, rfl⟩) | fail)
        refine (bad_ok 3 _).mono ?_
        rintro e w21 ⟨rfl, b21⟩
        clear s_VP f_VP z_VP
        have S21 := b21.size
        replace VP := VP.kept b21
        replace VR := VR.kept b21
        replace B := thenB B b21
        clear b21
        obtain ⟨s_VR, f_VR, z_VR⟩ := VR.open
        go_wp2
        refine bodyPost_ret (v := .agg #[.int .i64 3, .int .i64 0, .int .i64 0, .int .i64 0, .int .i64 0, .int .i64 0, .int .i64 0, .slice none 0 0]) (by simp [results, Try.results8, go_sem, f_VR]) rfl ⟨none, 0, rfl, own_none, ?_⟩
        repeat' first | with_reducible exact B | with_reducible refine Below.setCell ?_ ?_ _ | (simp; try omega)
      · skip
        rw [hgl.out] at q3
        rw [hgr.out] at q4'
        obtain ⟨rfl, rfl, rfl, rfl, rfl, rfl, rfl, rfl⟩ := psIs_inj hI.out (psIs_no qr.out (by decide))
        obtain rfl : m = 0 := by have := hm.out; simpa using this.symm
        clear hI hm qr
        have hl0 : (l == 0) = false := by simpa using q3
        have hr0 : (r == 0) = true := by simpa using q4'
        obtain ⟨s_VP, f_VP, z_VP⟩ := VP.open
        go_wp2_with (first | (go_at_call 28; refine (specHasPorts_ok _ _).mono ?_; rintro e wc ⟨rfl, rfl⟩) | fail)
        refine (bad_ok 3 _).mono ?_
        rintro e w21 ⟨rfl, b21⟩
        clear s_VP f_VP z_VP
        have S21 := b21.size
        replace VP := VP.kept b21
        replace VR := VR.kept b21
        replace B := thenB B b21
        clear b21
        obtain ⟨s_VR, f_VR, z_VR⟩ := VR.open
        go_wp2
        refine bodyPost_ret (v := .agg #[.int .i64 3, .int .i64 0, .int .i64 0, .int .i64 0, .int .i64 0, .int .i64 0, .int .i64 0, .slice none 0 0]) (by simp [results, Try.results8, go_sem, f_VR]) rfl ⟨none, 0, rfl, own_none, ?_⟩
        repeat' first | with_reducible exact B | with_reducible refine Below.setCell ?_ ?_ _ | (simp; try omega)
      · skip
        rw [hgl.out] at q3
        rw [hgr.out] at q4'
        rw [hgr.out] at q5
        rw [hn] at q6
        obtain ⟨rfl, rfl, rfl, rfl, rfl, rfl, rfl, rfl⟩ := psIs_inj hI.out (psIs_no qr.out (by decide))
        obtain rfl : m = 0 := by have := hm.out; simpa using this.symm
        clear hI hm qr
        have hl0 : (l == 0) = false := by simpa using q3
        have hr0 : (r == 0) = false := by simpa using q4'
        have hlt : (n : Int) - 20 < 4 := by omega
        have hca2 : (20 : Int) ≤ (ca : Int) := by omega
        by_cases hcap : ca = 20
        · skip
          obtain rfl : n = 20 := by omega
          subst hcap
          obtain ⟨s_VP, f_VP, z_VP⟩ := VP.open
          go_wp2_with (first | (go_at_call 28; refine (specHasPorts_ok _ _).mono ?_; rintro e wc ⟨rfl, rfl⟩) | fail)
          refine (bad_ok 5 _).mono ?_
          rintro e w21 ⟨rfl, b21⟩
          clear s_VP f_VP z_VP
          have S21 := b21.size
          replace VP := VP.kept b21
          replace VR := VR.kept b21
          replace B := thenB B b21
          clear b21
          obtain ⟨s_VR, f_VR, z_VR⟩ := VR.open
          go_wp2
          refine bodyPost_ret (v := .agg #[.int .i64 5, .int .i64 0, .int .i64 0, .int .i64 0, .int .i64 0, .int .i64 0, .int .i64 0, .slice none 0 0]) (by simp [results, Try.results8, go_sem, f_VR]) rfl ⟨none, 0, rfl, own_none, ?_⟩
          repeat' first | with_reducible exact B | with_reducible refine Below.setCell ?_ ?_ _ | (simp; try omega)
        · skip
          obtain ⟨s_VP, f_VP, z_VP⟩ := VP.open
          go_wp2_with (first | (go_at_call 28; refine (specHasPorts_ok _ _).mono ?_; rintro e wc ⟨rfl, rfl⟩) | fail)
          refine (bad_ok 5 _).mono ?_
          rintro e w21 ⟨rfl, b21⟩
          clear s_VP f_VP z_VP
          have S21 := b21.size
          replace VP := VP.kept b21
          replace VR := VR.kept b21
          replace B := thenB B b21
          clear b21
          obtain ⟨s_VR, f_VR, z_VR⟩ := VR.open
          go_wp2
          refine bodyPost_ret (v := .agg #[.int .i64 5, .int .i64 0, .int .i64 0, .int .i64 0, .int .i64 0, .int .i64 0, .int .i64 0, .slice none 0 0]) (by simp [results, Try.results8, go_sem, f_VR]) rfl ⟨none, 0, rfl, own_none, ?_⟩
          repeat' first | with_reducible exact B | with_reducible refine Below.setCell ?_ ?_ _ | (simp; try omega)
      · skip
        obtain ⟨e1, e2, e3⟩ := psX_yes q5
        have I : psIs zs 0 F T r l (takeN zs 20 2) (takeN zs 22 2) (zs.drop 24) := by
          unfold psIs; rw [qr.out, e1, e2, e3, hgF.out, hgT.out, hgr.out, hgl.out]; simp only [z0_0, zl_0, and_self]
        obtain ⟨rfl, rfl, rfl, rfl, rfl, rfl, rfl, rfl⟩ := psIs_inj I hI.out
        have hm := Hid.mk (show (n - 24 = m) by have h := hm.out; rw [List.length_drop, hn] at h; exact h)
        rw [hgl.out] at q3
        rw [hgr.out] at q4'
        rw [hgr.out] at q5
        rw [hn] at q6
        clear hI qr I e1 e2 e3
        have hl0 : (l == 0) = false := by simpa using q3
        have hr0 : (r == 0) = false := by simpa using q4'
        have hca2 : (20 : Int) ≤ (ca : Int) := by omega
        have hPn : P ≠ w.heap.size := by omega
        have hPn' : w.heap.size ≠ P := by omega
        have hPs := VP.1
        have hRs := VR.1
        have h204 : 4 ≤ (n : Int) - 20 := by omega
        have h200 : (n : Int) - 20 - 4 ≤ 200 := by omega
        have hcap20 : ¬ ca = 20 := by omega
        have hca4 : (4 : Int) ≤ (ca : Int) - 20 := by omega
        obtain ⟨s_VP, f_VP, z_VP⟩ := VP.open
        go_wp2_with (first | (go_at_call 28; refine (specHasPorts_ok _ _).mono ?_; rintro e wc ⟨rfl, rfl⟩) | fail)
        refine (l1Take_ok (some ⟨b1, o1 + 20, none⟩) (n - 20) (ca - 20) 0 2 (zs.drop 20) _ (by have h := (hR.out.kept B).sub 20 (n - 20); rw [List.take_of_length_le (by simp; omega)] at h; exact h) (fun z hz => hb z (List.mem_of_mem_drop hz)) (by rw [List.length_drop, hn]) (by unfold maxLen; omega) (by decide) (by omega)).mono ?_
        rintro e w21 ⟨rfl, b21⟩
        clear s_VP f_VP z_VP
        have S21 := b21.size
        replace VP := VP.kept b21
        replace VR := VR.kept b21
        replace B := thenB B b21
        clear b21
        rw [takeN_drop]
        obtain ⟨s_VP, f_VP, z_VP⟩ := VP.open
        go_wp2_with fail
        clear s_VP f_VP z_VP
        replace VP := VP.set (i := 4) (by simp) (.int .i64 (takeN zs 20 2))
        simp only [List.set_cons_zero, List.set_cons_succ] at VP
        replace VR := VR.other (p := ⟨P, 4, none⟩) (by (try simp); (try omega)) (.int .i64 (takeN zs 20 2))
        replace B := B.setCell (p := ⟨P, 4, none⟩) (by (try simp); (try omega)) (.int .i64 (takeN zs 20 2))
        refine (l1Take_ok (some ⟨b1, o1 + 20, none⟩) (n - 20) (ca - 20) 2 2 (zs.drop 20) _ (by have h := (hR.out.kept B).sub 20 (n - 20); rw [List.take_of_length_le (by simp; omega)] at h; exact h) (fun z hz => hb z (List.mem_of_mem_drop hz)) (by rw [List.length_drop, hn]) (by unfold maxLen; omega) (by decide) (by omega)).mono ?_
        rintro e w22 ⟨rfl, b22⟩
        have S22 := b22.size
        simp only [World.size_setCell] at S22
        replace VP := VP.kept b22
        replace VR := VR.kept b22
        replace B := thenB B b22
        clear b22
        rw [takeN_drop]
        obtain ⟨s_VP, f_VP, z_VP⟩ := VP.open
        go_upto_region 15 with fail
        clear s_VP f_VP z_VP
        replace VP := VP.set (i := 5) (by simp) (.int .i64 (takeN zs 22 2))
        simp only [List.set_cons_zero, List.set_cons_succ] at VP
        replace VR := VR.other (p := ⟨P, 5, none⟩) (by (try simp); (try omega)) (.int .i64 (takeN zs 22 2))
        replace B := B.setCell (p := ⟨P, 5, none⟩) (by (try simp); (try omega)) (.int .i64 (takeN zs 22 2))
        by_cases hcap : ca = 24
        · skip
          obtain rfl : n = 24 := by omega
          subst hcap
          have hz0 := Hid.mk (show zs.drop 24 = [] from List.drop_eq_nil_of_le (by omega))
          have Oe := Own.lit (w22.setCell ⟨P, 5, none⟩ (.int .i64 (takeN zs 22 2))) 5 ([] : List Int) (Nat.zero_le _)
          simp only [World.size_setCell] at Oe
          obtain ⟨s_VP, f_VP, z_VP⟩ := VP.open
          have VPz := VP.kept (belowA (w22.setCell ⟨P, 5, none⟩ (.int .i64 (takeN zs 22 2))) (.cells #[] 5))
          have VRz := VR.kept (belowA (w22.setCell ⟨P, 5, none⟩ (.int .i64 (takeN zs 22 2))) (.cells #[] 5))
          have Bz := thenB B (belowA (w22.setCell ⟨P, 5, none⟩ (.int .i64 (takeN zs 22 2))) (.cells #[] 5))
          go_wp2_with (first | (go_at_call 28; refine (specHasPorts_ok _ _).mono ?_; rintro e wc ⟨rfl, rfl⟩) | (at_builtin; go_loud (refine wpList_put _ rfl _ _ 22 rfl (w22.heap.size) 5 i0 Try.underlying22 hi j0 j1 j2 _ _ 0 _ rfl Oe rfl (some ⟨b1, o1 + 20, none⟩) (0) (0) (zs.drop 24) rfl (by rw [hz0.out]; exact Rd.nil) (by rw [hz0.out]; rfl) (fun h => by cases h) (0) (zs.drop 24) (by omega) (by rfl) (by omega) (by simp only [World.size_alloc, World.size_setCell]; omega) ?_)))
          intro c d wz Oz bz
          clear s_VP f_VP z_VP
          have bsz := bz.size
          simp only [World.size_alloc, World.size_setCell] at bsz
          replace VP := VPz.keptB (by omega) bz
          replace VR := VRz.keptB (by omega) bz
          replace B := Bz.trans (bz.mono (by omega))
          clear VPz VRz Bz
          have Oz := Hid.mk Oz
          clear bz Oe
          obtain ⟨s_VP, f_VP, z_VP⟩ := VP.open
          obtain ⟨s_VR, f_VR, z_VR⟩ := VR.open
          go_wp2
          refine bodyPost_ret (v := .agg #[.int .i64 0, .int .i64 F, .int .i64 T, .int .i64 r, .int .i64 l, .int .i64 (takeN zs 20 2), .int .i64 (takeN zs 22 2), .slice c (0) d]) (by simp [results, Try.results8, go_sem, f_VR]) rfl ⟨c, d, ?_, ?_, ?_⟩
          · unfold psAns; rw [← hm.out]
          · refine Own.mono (base := w22.heap.size) ?_ (by omega)
            repeat' first | with_reducible exact Oz.out | with_reducible refine Own.below ?_ ?_ _ | (simp; try omega)
          · repeat' first | with_reducible exact B | with_reducible refine Below.setCell ?_ ?_ _ | (simp; try omega)
        · skip
          have Oe := Own.lit (w22.setCell ⟨P, 5, none⟩ (.int .i64 (takeN zs 22 2))) 5 ([] : List Int) (Nat.zero_le _)
          simp only [World.size_setCell] at Oe
          obtain ⟨s_VP, f_VP, z_VP⟩ := VP.open
          have VPz := VP.kept (belowA (w22.setCell ⟨P, 5, none⟩ (.int .i64 (takeN zs 22 2))) (.cells #[] 5))
          have VRz := VR.kept (belowA (w22.setCell ⟨P, 5, none⟩ (.int .i64 (takeN zs 22 2))) (.cells #[] 5))
          have Bz := thenB B (belowA (w22.setCell ⟨P, 5, none⟩ (.int .i64 (takeN zs 22 2))) (.cells #[] 5))
          go_wp2_with (first | (go_at_call 28; refine (specHasPorts_ok _ _).mono ?_; rintro e wc ⟨rfl, rfl⟩) | (at_builtin; go_loud (refine wpList_put _ rfl _ _ 22 rfl (w22.heap.size) 5 i0 Try.underlying22 hi j0 j1 j2 _ _ 0 _ rfl Oe rfl (some ⟨b1, o1 + 20 + 4, none⟩) (n - 20 - 4) (ca - 20 - 4) (zs.drop 24) rfl (by have h := (hR.out.kept Bz).sub 24 (n - 24); rw [List.take_of_length_le (by simp; omega)] at h; exact h) (by rw [List.length_drop, hn]; omega) (fun h => by cases h) (n - 20 - 4) (zs.drop 24) (by omega) (by rfl) (by omega) (by simp only [World.size_alloc, World.size_setCell]; omega) ?_)))
          intro c d wz Oz bz
          clear s_VP f_VP z_VP
          have bsz := bz.size
          simp only [World.size_alloc, World.size_setCell] at bsz
          replace VP := VPz.keptB (by omega) bz
          replace VR := VRz.keptB (by omega) bz
          replace B := Bz.trans (bz.mono (by omega))
          clear VPz VRz Bz
          have Oz := Hid.mk Oz
          clear bz Oe
          obtain ⟨s_VP, f_VP, z_VP⟩ := VP.open
          obtain ⟨s_VR, f_VR, z_VR⟩ := VR.open
          go_wp2
          refine bodyPost_ret (v := .agg #[.int .i64 0, .int .i64 F, .int .i64 T, .int .i64 r, .int .i64 l, .int .i64 (takeN zs 20 2), .int .i64 (takeN zs 22 2), .slice c (n - 20 - 4) d]) (by simp [results, Try.results8, go_sem, f_VR]) rfl ⟨c, d, ?_, ?_, ?_⟩
          · unfold psAns; rw [← hm.out, show n - 20 - 4 = n - 24 by omega]
          · refine Own.mono (base := w22.heap.size) ?_ (by omega)
            repeat' first | with_reducible exact Oz.out | with_reducible refine Own.below ?_ ?_ _ | (simp; try omega)
          · repeat' first | with_reducible exact B | with_reducible refine Below.setCell ?_ ?_ _ | (simp; try omega)
      · skip
        obtain ⟨e1, e2, e3⟩ := psX_no q5
        have I : psIs zs 0 F T r l 0 0 (zs.drop 20) := by
          unfold psIs; rw [qr.out, e1, e2, e3, hgF.out, hgT.out, hgr.out, hgl.out]; simp only [z0_0, zl_0, and_self]
        obtain ⟨rfl, rfl, rfl, rfl, rfl, rfl, rfl, rfl⟩ := psIs_inj I hI.out
        have hm := Hid.mk (show (n - 20 = m) by have h := hm.out; rw [List.length_drop, hn] at h; exact h)
        rw [hgl.out] at q3
        rw [hgr.out] at q4'
        rw [hgr.out] at q5
        rw [hn] at q6
        clear hI qr I e1 e2 e3
        have hl0 : (l == 0) = false := by simpa using q3
        have hr0 : (r == 0) = false := by simpa using q4'
        have hca2 : (20 : Int) ≤ (ca : Int) := by omega
        have hPn : P ≠ w.heap.size := by omega
        have hPn' : w.heap.size ≠ P := by omega
        have hPs := VP.1
        have hRs := VR.1
        have h200 : (n : Int) - 20 ≤ 200 := by omega
        by_cases hcap : ca = 20
        · skip
          obtain rfl : n = 20 := by omega
          subst hcap
          have hz0 := Hid.mk (show zs.drop 20 = [] from List.drop_eq_nil_of_le (by omega))
          have Oe := Own.lit wc 5 ([] : List Int) (Nat.zero_le _)
          obtain ⟨s_VP, f_VP, z_VP⟩ := VP.open
          have VPz := VP.kept (belowA wc (.cells #[] 5))
          have VRz := VR.kept (belowA wc (.cells #[] 5))
          have Bz := thenB B (belowA wc (.cells #[] 5))
          go_wp2_with (first | (go_at_call 28; refine (specHasPorts_ok _ _).mono ?_; rintro e wc ⟨rfl, rfl⟩) | (at_builtin; go_loud (refine wpList_put _ rfl _ _ 22 rfl (wc.heap.size) 5 i0 Try.underlying22 hi j0 j1 j2 _ _ 0 _ rfl Oe rfl (some ⟨b1, o1, none⟩) (0) (0) (zs.drop 20) rfl (by rw [hz0.out]; exact Rd.nil) (by rw [hz0.out]; rfl) (fun h => by cases h) (0) (zs.drop 20) (by omega) (by rfl) (by omega) (by simp only [World.size_alloc]; omega) ?_)))
          intro c d wz Oz bz
          clear s_VP f_VP z_VP
          have bsz := bz.size
          simp only [World.size_alloc] at bsz
          replace VP := VPz.keptB (by omega) bz
          replace VR := VRz.keptB (by omega) bz
          replace B := Bz.trans (bz.mono (by omega))
          clear VPz VRz Bz
          have Oz := Hid.mk Oz
          clear bz Oe
          obtain ⟨s_VP, f_VP, z_VP⟩ := VP.open
          obtain ⟨s_VR, f_VR, z_VR⟩ := VR.open
          go_wp2
          refine bodyPost_ret (v := .agg #[.int .i64 0, .int .i64 F, .int .i64 T, .int .i64 r, .int .i64 l, .int .i64 0, .int .i64 0, .slice c (0) d]) (by simp [results, Try.results8, go_sem, f_VR]) rfl ⟨c, d, ?_, ?_, ?_⟩
          · unfold psAns; rw [← hm.out]
          · refine Own.mono (base := wc.heap.size) ?_ (by omega)
            repeat' first | with_reducible exact Oz.out | with_reducible refine Own.below ?_ ?_ _ | (simp; try omega)
          · repeat' first | with_reducible exact B | with_reducible refine Below.setCell ?_ ?_ _ | (simp; try omega)
        · skip
          have Oe := Own.lit wc 5 ([] : List Int) (Nat.zero_le _)
          obtain ⟨s_VP, f_VP, z_VP⟩ := VP.open
          have VPz := VP.kept (belowA wc (.cells #[] 5))
          have VRz := VR.kept (belowA wc (.cells #[] 5))
          have Bz := thenB B (belowA wc (.cells #[] 5))
          go_wp2_with (first | (go_at_call 28; refine (specHasPorts_ok _ _).mono ?_; rintro e wc ⟨rfl, rfl⟩) | (at_builtin; go_loud (refine wpList_put _ rfl _ _ 22 rfl (wc.heap.size) 5 i0 Try.underlying22 hi j0 j1 j2 _ _ 0 _ rfl Oe rfl (some ⟨b1, o1 + 20, none⟩) (n - 20) (ca - 20) (zs.drop 20) rfl (by have h := (hR.out.kept Bz).sub 20 (n - 20); rw [List.take_of_length_le (by simp; omega)] at h; exact h) (by rw [List.length_drop, hn]) (fun h => by cases h) (n - 20) (zs.drop 20) (by omega) (by rfl) (by omega) (by simp only [World.size_alloc]; omega) ?_)))
          intro c d wz Oz bz
          clear s_VP f_VP z_VP
          have bsz := bz.size
          simp only [World.size_alloc] at bsz
          replace VP := VPz.keptB (by omega) bz
          replace VR := VRz.keptB (by omega) bz
          replace B := Bz.trans (bz.mono (by omega))
          clear VPz VRz Bz
          have Oz := Hid.mk Oz
          clear bz Oe
          obtain ⟨s_VP, f_VP, z_VP⟩ := VP.open
          obtain ⟨s_VR, f_VR, z_VR⟩ := VR.open
          go_wp2
          refine bodyPost_ret (v := .agg #[.int .i64 0, .int .i64 F, .int .i64 T, .int .i64 r, .int .i64 l, .int .i64 0, .int .i64 0, .slice c (n - 20) d]) (by simp [results, Try.results8, go_sem, f_VR]) rfl ⟨c, d, ?_, ?_, ?_⟩
          · unfold psAns; rw [← hm.out]
          · refine Own.mono (base := wc.heap.size) ?_ (by omega)
            repeat' first | with_reducible exact Oz.out | with_reducible refine Own.below ?_ ?_ _ | (simp; try omega)
          · repeat' first | with_reducible exact B | with_reducible refine Below.setCell ?_ ?_ _ | (simp; try omega)
      · skip
        rw [hgl.out] at q3
        rw [hgr.out] at q4'
        rw [hgr.out] at q5
        rw [hn] at q6
        obtain ⟨rfl, rfl, rfl, rfl, rfl, rfl, rfl, rfl⟩ := psIs_inj hI.out (psIs_no qr.out (by decide))
        obtain rfl : m = 0 := by have := hm.out; simpa using this.symm
        clear hI hm qr
        have hl0 : (l == 0) = false := by simpa using q3
        have hr0 : (r == 0) = false := by simpa using q4'
        have hlt : 200 < (n : Int) - 20 := by omega
        have hca2 : (20 : Int) ≤ (ca : Int) := by omega
        have hcap : ¬ ca = 20 := by omega
        obtain ⟨s_VP, f_VP, z_VP⟩ := VP.open
        go_wp2_with (first | (go_at_call 28; refine (specHasPorts_ok _ _).mono ?_; rintro e wc ⟨rfl, rfl⟩) | fail)
        refine (bad_ok 2 _).mono ?_
        rintro e w21 ⟨rfl, b21⟩
        clear s_VP f_VP z_VP
        have S21 := b21.size
        replace VP := VP.kept b21
        replace VR := VR.kept b21
        replace B := thenB B b21
        clear b21
        obtain ⟨s_VR, f_VR, z_VR⟩ := VR.open
        go_wp2
        refine bodyPost_ret (v := .agg #[.int .i64 2, .int .i64 0, .int .i64 0, .int .i64 0, .int .i64 0, .int .i64 0, .int .i64 0, .slice none 0 0]) (by simp [results, Try.results8, go_sem, f_VR]) rfl ⟨none, 0, rfl, own_none, ?_⟩
        repeat' first | with_reducible exact B | with_reducible refine Below.setCell ?_ ?_ _ | (simp; try omega)

set_option maxHeartbeats 1000000 in
theorem specParsePacket_ok (a : Option Addr) (n ca : Nat) (zs : List Int) (k F T r l x y : Int) (ys : List Int) (m : Nat) (hI : psIs zs k F T r l x y ys) (hm : ys.length = m) (w : World) (ha : Rd .u8 w a zs) (hb : Bytes zs) (hn : zs.length = n) (hx : n ≤ 1048576) (hca : n ≤ ca) :
    Calls Try.prog 8 #[.slice a n ca] w fun e w' => ∃ c d, e = .returned (.agg #[.int .i64 k, .int .i64 F, .int .i64 T, .int .i64 r, .int .i64 l, .int .i64 x, .int .i64 y, .slice c m d]) ∧ Own .u8 5 w' w.heap.size c d ys ∧ Below w.heap.size w w' := by
  have no : ∀ q, psC zs = q → q ≠ 0 → (Calls Try.prog 8 #[.slice a n ca] w fun e w' => e = .returned (.agg #[.int .i64 q, .int .i64 0, .int .i64 0, .int .i64 0, .int .i64 0, .int .i64 0, .int .i64 0, .slice none 0 0]) ∧ Below w.heap.size w w') →
      Calls Try.prog 8 #[.slice a n ca] w fun e w' => ∃ c d, e = .returned (.agg #[.int .i64 k, .int .i64 F, .int .i64 T, .int .i64 r, .int .i64 l, .int .i64 x, .int .i64 y, .slice c m d]) ∧ Own .u8 5 w' w.heap.size c d ys ∧ Below w.heap.size w w' := by
    intro q hq hq0 C
    obtain ⟨rfl, rfl, rfl, rfl, rfl, rfl, rfl, rfl⟩ := psIs_inj hI (psIs_no hq hq0)
    subst hm
    refine C.mono ?_
    rintro e w1 ⟨rfl, b1⟩
    exact ⟨none, 0, rfl, own_none, b1⟩
  by_cases hh : hdB zs = true
  · obtain ⟨⟨p1, p2⟩, p3, p4, p5, p6⟩ := (hdB_iff hb).1 hh
    rcases ha with ha | ⟨b1, o1, rfl, hc⟩
    · simp [ha] at p1
    have h1 : btw (n : Int) 20 224 = true := btw_iff.2 ⟨by omega, by omega⟩
    by_cases hs : (sumWords (zs.take 20) == 0) = true
    · exact sp_rest b1 o1 _ _ _ _ _ _ _ _ k F T r l x y ys m n ca zs w hc hb hn hx h1 p3 p4 p5 (by rw [p6, hn]; rfl) (by decide) (by decide) (by decide) (by simp) hca hs rfl rfl rfl rfl hh hI hm
    · simp only [Bool.not_eq_true] at hs
      have hp : psC zs = 6 := by unfold psC; rw [if_pos hh, if_neg (by intro h; rw [h] at hs; simp at hs)]
      exact no 6 hp (by decide) (sp_B b1 o1 _ _ _ _ n ca zs w hc hb hn hx h1 p3 p4 p5 (by rw [p6, hn]; rfl) (by decide) (by decide) (by decide) (by simp) hca hs)
  · have hp : psC zs = 5 := by unfold psC; rw [if_neg hh]
    refine no 5 hp (by decide) ?_
    by_cases h1 : btw (n : Int) 20 224 = true
    · have hl := btw_iff.1 h1
      rcases ha with ha | ⟨b1, o1, rfl, hc⟩
      · simp [ha] at hn; omega
      by_cases h2 : zs.getD 0 0 = 69
      · by_cases h3 : zs.getD 1 0 = 0
        · by_cases h4 : takeN zs 4 4 = 16384
          · by_cases h5 : takeN zs 2 2 = (n : Int)
            · exact absurd ((hdB_iff hb).2 ⟨⟨by omega, by omega⟩, h2, h3, h4, by rw [h5, hn]⟩) hh
            · exact sp_A5 b1 o1 _ _ _ _ n ca zs w hc hb hn hx h1 h2 h3 h4 rfl (by decide) (by decide) (by decide) (by simp [h5])
          · exact sp_A4 b1 o1 _ _ _ n ca zs w hc hb hn hx h1 h2 h3 rfl (by decide) (by decide) (by simp [h4])
        · exact sp_A3 b1 o1 _ _ n ca zs w hc hn hx h1 h2 rfl (by decide) (by simpa using h3)
      · exact sp_A2 b1 o1 _ n ca zs w hc hn hx h1 rfl (by simpa using h2)
    · simp only [Bool.not_eq_true] at h1
      exact sp_A1 a n ca w h1

end Go.Proofs.Ythjaehcfakjemaa
