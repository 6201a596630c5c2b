/- MissingIn: program and model. -/
import Derived.Test.YtkpdbdcfimdnjaaWnF
import Derived.Test.YtkpdbdcfimdnjaaIntA
import Derived.Deep.CutBlock
namespace Go.Proofs.Ytkpdbdcfimdnjaa
open Go.RowKit

theorem ownCellsW {w : World} {base : Nat} {a : Option Addr} {cap : Nat} {zs : List Int} {B : Nat} (h : Own .i64 2 w base a cap zs) (hB : ∀ b : Addr, a = some b → b.block ≠ B) (o : Nat) (vs : List Value) : Own .i64 2 (w.setCells B o vs) base a cap zs := by
  induction vs generalizing w o with
  | nil => exact h
  | cons v vs ih =>
    refine ih (w := w.setCell ⟨B, o, none⟩ v) (h.grown (row := some B) ⟨rfl, rfl, rfl, by simp [World.setCell], fun k _ hk => Below.heap_setCell _ _ _ _ (fun e => hk (by rw [e]))⟩ fun b hb e => ?_) (o + 1)
    simp only [Option.some.injEq] at e
    exact hB b hb e.symm

theorem build_iw0 (k : Int) (w : World) : (Instr.build 30 #[(0, .int .i64 k)]).run Try.prog w = .ok (.agg #[.int .i64 k, .slice none 0 0]) w := run_build w 30 _ _ (by kernel_rfl)

theorem build_iw1 (a : Option Addr) (n c : Nat) (w : World) : (Instr.build 30 #[(1, .slice a n c)]).run Try.prog w = .ok (.agg #[.int .i64 0, .slice a n c]) w := run_build w 30 _ _ (by kernel_rfl)

theorem build_iwZ (w : World) : (Instr.build 30 #[]).run Try.prog w = .ok (.agg #[.int .i64 0, .slice none 0 0]) w := run_build w 30 _ _ (by kernel_rfl)

/-- What 'MissingIn' answers beside its code. -/
@[irreducible] def miL (x : Wn) : List Int := if wF x = 0 then misL x else []

theorem mi_ways (x : Wn) : (¬ wF x = 0 ∧ miL x = []) ∨ (wF x = 0 ∧ miL x = misK x (misN x)) := by
  unfold miL misL
  by_cases h : wF x = 0
  · exact .inr ⟨h, by rw [if_pos h]⟩
  · exact .inl ⟨h, by rw [if_neg h]⟩

theorem misN_le {x : Wn} (h : inW x) : misN x ≤ 31 := by
  obtain ⟨i1, i2, _, _⟩ := h
  unfold misN frW
  omega

theorem miL_len (x : Wn) : (miL x).length ≤ 31 := by
  rcases mi_ways x with ⟨_, e⟩ | ⟨h, e⟩
  · rw [e]; simp
  · rw [e]
    have := misK_len x (misN x)
    have := misN_le (wF_ok.mp h).1
    omega

theorem mis_yes {x : Wn} {k : Nat} {s : Int} (hs : frW x + (k : Int) = s) (h : had x s = true) : misK x (k + 1) = misK x k := by
  rw [misK_succ, hs, h]; simp

theorem mis_no {x : Wn} {k : Nat} {s : Int} (hs : frW x + (k : Int) = s) (h : had x s = false) : misK x (k + 1) = misK x k ++ [s] := by
  rw [misK_succ, hs, h]; simp

set_option maxRecDepth 20000 in
set_option maxHeartbeats 8000000 in
theorem implMissing_ok (x : Wn) (w : World) :
    Calls Try.prog 20 #[.agg #[.int .i64 x.t, .int .i64 x.b]] w fun e w' => ∃ c d, e = .returned (.agg #[.int .i64 (wF x), .slice c (miL x).length d]) ∧ Own .i64 2 w' w.heap.size c d (miL x) ∧ Below w.heap.size w w' := by
  have CF := Hid.mk (fun w => implWF_ok x w)
  have q0 := build_iw0
  have q1 := build_iw1
  have qz := build_iwZ
  rcases mi_ways x with ⟨h1, e1⟩ | ⟨h1, e1⟩
  · have hne : (wF x != 0) = true := by simp [h1]
    rw [e1]
    generalize wF x = kc at *
    clear h1 e1
    go_enter Try.func20, Try.ntmps20
    have B := Below.refl w.heap.size w
    have Bo := B
    replace B := thenB B (belowA w (.cells #[.int .i64 x.t, .int .i64 x.b] 25))
    have VA := V.new w [.int .i64 x.t, .int .i64 x.b] 25
    replace VA := VA.kept (belowA (w.alloc (.cells #[.int .i64 x.t, .int .i64 x.b] 25)) (.cells #[.int .i64 0, .slice none 0 0] 30))
    replace B := thenB B (belowA (w.alloc (.cells #[.int .i64 x.t, .int .i64 x.b] 25)) (.cells #[.int .i64 0, .slice none 0 0] 30))
    have VR : V ((w.alloc (.cells #[.int .i64 x.t, .int .i64 x.b] 25)).alloc (.cells #[.int .i64 0, .slice none 0 0] 30)) (w.heap.size + 1) [.int .i64 0, .slice none 0 0] := V.newAt _ _ _ _ (by simp)
    obtain ⟨s_VA, f_VA, z_VA⟩ := VA.open
    obtain ⟨s_VR, f_VR, z_VR⟩ := VR.open
    have Bo := B
    go_wp2_with fail
    refine (CF.out _).mono ?_
    rintro e w1 ⟨rfl, b1⟩
    clear s_VA f_VA z_VA s_VR f_VR z_VR
    have S1 := b1.size
    simp only [World.size_alloc] at S1
    replace VA := VA.kept b1
    replace VR := VR.kept b1
    replace B := thenB B b1
    clear b1
    obtain ⟨s_VA, f_VA, z_VA⟩ := VA.open
    obtain ⟨s_VR, f_VR, z_VR⟩ := VR.open
    have Bo := B
    clear s_VA f_VA z_VA s_VR f_VR z_VR
    have VF := Hid.mk (VR.filled [.int .i64 kc, .slice none 0 0] rfl)
    have BR := belowCells B (show w.heap.size ≤ w.heap.size + 1 by (first | omega | (simp; done) | (simp; omega))) 0 [.int .i64 kc, .slice none 0 0]
    have HT := Hid.mk VR.there
    replace BR := Hid.mk BR
    obtain ⟨s_VA, f_VA, z_VA⟩ := VA.open
    obtain ⟨s_VR, f_VR, z_VR⟩ := VR.open
    go_wp2_with (refine wpList_store_mid rfl 30 _ _ rfl (w.heap.size + 1) 0 #[.int .i64 kc, .slice none 0 0] rfl rfl HT.out (by kernel_rfl) (by kernel_rfl) ?_)
    refine bodyPost_ret (v := .agg #[.int .i64 kc, .slice none 0 0]) (results_row Try.results20 _ _ (w.heap.size + 1) [.int .i64 kc, .slice none 0 0] _ rfl VF.out Try.underlying30 rfl (by kernel_rfl)) rfl ⟨none, 0, rfl, own_none, BR.out⟩
  · rw [e1, h1]
    have hi := (wF_ok.mp h1).1
    have hN := misN_le hi
    obtain ⟨r1, r2⟩ := fr_row hi
    have hNt : (misN x : Int) = x.t - frW x ∨ (x.t - frW x < 0 ∧ misN x = 0) := by obtain ⟨i1, _⟩ := hi; unfold misN frW; omega
    have hft : x.t - 31 ≤ frW x ∧ frW x ≤ x.t + 1 := by obtain ⟨i1, _⟩ := hi; unfold frW; omega
    simp only [h1] at CF
    have hT := hi.2.1
    have hT0 := hi.1
    generalize misN x = N at *
    obtain ⟨f, hf⟩ : ∃ f, frW x = f := ⟨_, rfl⟩
    rw [hf] at r1 r2 hNt hft
    have CI := Hid.mk (fun w => firstIn_ok x hi w)
    simp only [hf] at CI
    replace hf := Hid.mk hf
    replace hi := Hid.mk hi
    obtain ⟨ft1, ft2⟩ := hft
    clear h1 e1
    go_enter Try.func20, Try.ntmps20
    have B := Below.refl w.heap.size w
    have Bo := B
    replace B := thenB B (belowA w (.cells #[.int .i64 x.t, .int .i64 x.b] 25))
    have VA := V.new w [.int .i64 x.t, .int .i64 x.b] 25
    replace VA := VA.kept (belowA (w.alloc (.cells #[.int .i64 x.t, .int .i64 x.b] 25)) (.cells #[.int .i64 0, .slice none 0 0] 30))
    replace B := thenB B (belowA (w.alloc (.cells #[.int .i64 x.t, .int .i64 x.b] 25)) (.cells #[.int .i64 0, .slice none 0 0] 30))
    have VR : V ((w.alloc (.cells #[.int .i64 x.t, .int .i64 x.b] 25)).alloc (.cells #[.int .i64 0, .slice none 0 0] 30)) (w.heap.size + 1) [.int .i64 0, .slice none 0 0] := V.newAt _ _ _ _ (by simp)
    obtain ⟨s_VA, f_VA, z_VA⟩ := VA.open
    obtain ⟨s_VR, f_VR, z_VR⟩ := VR.open
    have Bo := B
    go_wp2_with fail
    refine (CF.out _).mono ?_
    rintro e w1 ⟨rfl, b1⟩
    clear s_VA f_VA z_VA s_VR f_VR z_VR
    have S1 := b1.size
    simp only [World.size_alloc] at S1
    replace VA := VA.kept b1
    replace VR := VR.kept b1
    replace B := thenB B b1
    clear b1
    obtain ⟨s_VA, f_VA, z_VA⟩ := VA.open
    obtain ⟨s_VR, f_VR, z_VR⟩ := VR.open
    have Bo := B
    go_wp2_with fail
    refine (CI.out _).mono ?_
    rintro e w2 ⟨rfl, b2⟩
    clear s_VA f_VA z_VA s_VR f_VR z_VR
    have S2 := b2.size
    replace VA := VA.kept b2
    replace VR := VR.kept b2
    replace B := thenB B b2
    clear b2
    obtain ⟨s_VA, f_VA, z_VA⟩ := VA.open
    obtain ⟨s_VR, f_VR, z_VR⟩ := VR.open
    have Bo := B
    clear s_VA f_VA z_VA s_VR f_VR z_VR
    have hs2 : w.heap.size + 1 < w2.heap.size := VR.1
    obtain ⟨s_VA, f_VA, z_VA⟩ := VA.open
    have VA1 := Hid.mk VA
    have VR1 := Hid.mk VR
    have B1 := Hid.mk B
    clear B VR VA Bo CF CI
    go_wp2
    go_loopw [5, 20] (fun m i wr => ∃ (k j d : Nat) (c : Option Addr) (os : List Int), k ≤ N ∧ m = .slice c j d ∧ i = .int .i64 k ∧ misK x k = os ∧ os.length = j ∧ j ≤ k ∧ Own .i64 2 wr (w.heap.size + 2) c d os ∧ V wr w.heap.size [.int .i64 x.t, .int .i64 x.b] ∧ V wr (w.heap.size + 1) [.int .i64 0, .slice none 0 0] ∧ Below w.heap.size w wr) (fun _ i _ => N - (intOf i).toNat)
    case atStart => exact ⟨0, 0, 0, none, [], Nat.zero_le _, rfl, rfl, rfl, rfl, Nat.le_refl _, own_none, VA1.out, VR1.out, B1.out⟩
    case round =>
      clear VA1 VR1 B1 s_VA f_VA z_VA
      obtain ⟨k, j, d, c, os, hk, rfl, rfl, hos, hj, hjk, O, VA, VR, B⟩ := hrel
      by_cases hlt : k < N
      · have hk1 : (k : Int) < x.t - f := by omega
        have hk2 : (k : Int) ≤ 31 := by omega
        have CW := Hid.mk (fun w => wasTaken_ok x hi.out (f + (k : Int)) (by omega) w)
        have HJ := Hid.mk hj
        have hOl := O.lt
        have F2 : Hid (∀ b : Addr, c = some b → b.block ≠ w.heap.size) := Hid.mk (fun b hb => by have := (hOl b hb).1; omega)
        have F3 : Hid (∀ b : Addr, c = some b → b.block ≠ w.heap.size + 1) := Hid.mk (fun b hb => by have := (hOl b hb).1; omega)
        have HOS := Hid.mk hos
        clear hj hOl hos
        cases hg : had x (f + (k : Int))
        · simp only [hg] at CW
          have hst := Hid.mk (mis_no (k := k) (by rw [hf.out]) hg)
          clear hg
          obtain ⟨s_VA, f_VA, z_VA⟩ := VA.open
          obtain ⟨s_VR, f_VR, z_VR⟩ := VR.open
          have Bo := B
          go_wp2_with fail
          refine (CW.out _).mono ?_
          rintro e w41 ⟨rfl, b41⟩
          clear s_VA f_VA z_VA s_VR f_VR z_VR
          have S41 := b41.size
          replace VA := VA.kept b41
          replace VR := VR.kept b41
          replace O := O.kept b41
          replace B := thenB B b41
          clear b41
          obtain ⟨s_VA, f_VA, z_VA⟩ := VA.open
          obtain ⟨s_VR, f_VR, z_VR⟩ := VR.open
          have Bo := B
          clear s_VA f_VA z_VA s_VR f_VR z_VR
          have O2 := O.kept (belowA w41 (.cells #[.int .i64 (f + (k : Int))] 2))
          have VAL := Hid.mk (VA.kept (belowA w41 (.cells #[.int .i64 (f + (k : Int))] 2)))
          have VRL := Hid.mk (VR.kept (belowA w41 (.cells #[.int .i64 (f + (k : Int))] 2)))
          have BL := Hid.mk (thenB B (belowA w41 (.cells #[.int .i64 (f + (k : Int))] 2)))
          have TL : w.heap.size + 2 ≤ (w41.alloc (.cells #[.int .i64 (f + (k : Int))] 2)).heap.size := by have := VRL.out.1; omega
          have OLT := Hid.mk O2.lt
          clear O VA VR B Bo CW
          go_wp2_with (at_builtin; go_loud (refine wpList_putI _ rfl _ _ rfl (w.heap.size + 2) c d os j HJ.out rfl O2 _ 1 (f + (k : Int)) rfl (cell_one' _ _ _ 0 _ rfl) (by omega) TL ?_))
          intro c4 d4 w4 O4 hg4 hx4
          have VA := Hid.mk (VAL.out.grownR hg4 (row_ne F2.out))
          have VR := Hid.mk (VRL.out.grownR hg4 (row_ne F3.out))
          have B := Hid.mk (belowG BL.out hg4 (by omega) (fun b hb => by have := (OLT.out b hb).1; omega))
          have hl4 : Hid ((os ++ [f + (k : Int)]).length = j + 1) := Hid.mk (by rw [List.length_append, HJ.out]; rfl)
          replace O4 := Hid.mk O4
          clear O2 VAL VRL BL OLT hg4 hx4 TL
          go_wp2
          go_roundw
          case rel => exact ⟨k + 1, j + 1, d4, c4, _, by omega, rfl, by go_num, by rw [hst.out, HOS.out], hl4.out, by omega, O4.out, VA.out, VR.out, B.out⟩
          case measure => simp [intOf]; omega
        · simp only [hg] at CW
          have hst := Hid.mk (mis_yes (k := k) (by rw [hf.out]) hg)
          clear hg
          obtain ⟨s_VA, f_VA, z_VA⟩ := VA.open
          obtain ⟨s_VR, f_VR, z_VR⟩ := VR.open
          have Bo := B
          go_wp2_with fail
          refine (CW.out _).mono ?_
          rintro e w71 ⟨rfl, b71⟩
          clear s_VA f_VA z_VA s_VR f_VR z_VR
          have S71 := b71.size
          replace VA := VA.kept b71
          replace VR := VR.kept b71
          replace O := O.kept b71
          replace B := thenB B b71
          clear b71
          obtain ⟨s_VA, f_VA, z_VA⟩ := VA.open
          obtain ⟨s_VR, f_VR, z_VR⟩ := VR.open
          have Bo := B
          clear s_VA f_VA z_VA s_VR f_VR z_VR
          replace VA := Hid.mk VA
          replace VR := Hid.mk VR
          replace B := Hid.mk B
          replace O := Hid.mk O
          clear Bo CW
          go_wp2
          go_roundw
          case rel => exact ⟨k + 1, j, d, c, os, by omega, rfl, by go_num, by rw [hst.out, HOS.out], HJ.out, by omega, O.out, VA.out, VR.out, B.out⟩
          case measure => simp [intOf]; omega
      · obtain rfl : k = N := by omega
        have hk1 : ¬ ((k : Int) < x.t - f) := by omega
        have HO := Hid.mk (O.mono (show w.heap.size ≤ _ by omega))
        have HC := Hid.mk (fun b hb => (O.lt b hb).1)
        have HJ := Hid.mk hj
        have HOS := Hid.mk hos
        clear O hj hos
        obtain ⟨s_VA, f_VA, z_VA⟩ := VA.open
        obtain ⟨s_VR, f_VR, z_VR⟩ := VR.open
        have Bo := B
        clear s_VA f_VA z_VA s_VR f_VR z_VR
        have VF := Hid.mk (VR.filled [.int .i64 0, .slice c j d] rfl)
        have BR := belowCells B (show w.heap.size ≤ w.heap.size + 1 by (first | omega | (simp; done) | (simp; omega))) 0 [.int .i64 0, .slice c j d]
        have HT := Hid.mk VR.there
        replace BR := Hid.mk BR
        obtain ⟨s_VA, f_VA, z_VA⟩ := VA.open
        obtain ⟨s_VR, f_VR, z_VR⟩ := VR.open
        go_wp2_with (refine wpList_store_mid rfl 30 _ _ rfl (w.heap.size + 1) 0 #[.int .i64 0, .slice c j d] rfl rfl HT.out (by kernel_rfl) (by kernel_rfl) ?_)
        refine bodyPost_ret (v := .agg #[.int .i64 0, .slice c j d]) (results_row Try.results20 _ _ (w.heap.size + 1) [.int .i64 0, .slice c j d] _ rfl VF.out Try.underlying30 rfl (by kernel_rfl)) rfl ⟨c, d, by rw [HOS.out, HJ.out], HOS.out.symm ▸ ownCellsW HO.out (by intro b hb; have := HC.out b hb; omega) _ _, BR.out⟩

set_option maxRecDepth 20000 in
set_option maxHeartbeats 8000000 in
theorem specMissing_ok (x : Wn) (w : World) :
    Calls Try.prog 38 #[.agg #[.int .i64 x.t, .int .i64 x.b]] w fun e w' => ∃ c d, e = .returned (.agg #[.int .i64 (wF x), .slice c (miL x).length d]) ∧ Own .i64 2 w' w.heap.size c d (miL x) ∧ Below w.heap.size w w' := by
  have CF := Hid.mk (fun w => specWF_ok x w)
  have q0 := build_iw0
  have q1 := build_iw1
  have qz := build_iwZ
  rcases mi_ways x with ⟨h1, e1⟩ | ⟨h1, e1⟩
  · have hne : (wF x != 0) = true := by simp [h1]
    rw [e1]
    generalize wF x = kc at *
    clear h1 e1
    go_enter Try.func38, Try.ntmps38
    have B := Below.refl w.heap.size w
    have Bo := B
    replace B := thenB B (belowA w (.cells #[.int .i64 x.t, .int .i64 x.b] 25))
    have VA := V.new w [.int .i64 x.t, .int .i64 x.b] 25
    replace VA := VA.kept (belowA (w.alloc (.cells #[.int .i64 x.t, .int .i64 x.b] 25)) (.cells #[.int .i64 0, .slice none 0 0] 30))
    replace B := thenB B (belowA (w.alloc (.cells #[.int .i64 x.t, .int .i64 x.b] 25)) (.cells #[.int .i64 0, .slice none 0 0] 30))
    have VR : V ((w.alloc (.cells #[.int .i64 x.t, .int .i64 x.b] 25)).alloc (.cells #[.int .i64 0, .slice none 0 0] 30)) (w.heap.size + 1) [.int .i64 0, .slice none 0 0] := V.newAt _ _ _ _ (by simp)
    obtain ⟨s_VA, f_VA, z_VA⟩ := VA.open
    obtain ⟨s_VR, f_VR, z_VR⟩ := VR.open
    have Bo := B
    go_wp2_with fail
    refine (CF.out _).mono ?_
    rintro e w1 ⟨rfl, b1⟩
    clear s_VA f_VA z_VA s_VR f_VR z_VR
    have S1 := b1.size
    simp only [World.size_alloc] at S1
    replace VA := VA.kept b1
    replace VR := VR.kept b1
    replace B := thenB B b1
    clear b1
    obtain ⟨s_VA, f_VA, z_VA⟩ := VA.open
    obtain ⟨s_VR, f_VR, z_VR⟩ := VR.open
    have Bo := B
    clear s_VA f_VA z_VA s_VR f_VR z_VR
    have VF := Hid.mk (VR.filled [.int .i64 kc, .slice none 0 0] rfl)
    have BR := belowCells B (show w.heap.size ≤ w.heap.size + 1 by (first | omega | (simp; done) | (simp; omega))) 0 [.int .i64 kc, .slice none 0 0]
    have HT := Hid.mk VR.there
    replace BR := Hid.mk BR
    obtain ⟨s_VA, f_VA, z_VA⟩ := VA.open
    obtain ⟨s_VR, f_VR, z_VR⟩ := VR.open
    go_wp2_with (refine wpList_store_mid rfl 30 _ _ rfl (w.heap.size + 1) 0 #[.int .i64 kc, .slice none 0 0] rfl rfl HT.out (by kernel_rfl) (by kernel_rfl) ?_)
    refine bodyPost_ret (v := .agg #[.int .i64 kc, .slice none 0 0]) (results_row Try.results38 _ _ (w.heap.size + 1) [.int .i64 kc, .slice none 0 0] _ rfl VF.out Try.underlying30 rfl (by kernel_rfl)) rfl ⟨none, 0, rfl, own_none, BR.out⟩
  · rw [e1, h1]
    have hi := (wF_ok.mp h1).1
    have hN := misN_le hi
    obtain ⟨r1, r2⟩ := fr_row hi
    have hNt : (misN x : Int) = x.t - frW x ∨ (x.t - frW x < 0 ∧ misN x = 0) := by obtain ⟨i1, _⟩ := hi; unfold misN frW; omega
    have hft : x.t - 31 ≤ frW x ∧ frW x ≤ x.t + 1 := by obtain ⟨i1, _⟩ := hi; unfold frW; omega
    simp only [h1] at CF
    have hT := hi.2.1
    have hT0 := hi.1
    generalize misN x = N at *
    obtain ⟨f, hf⟩ : ∃ f, frW x = f := ⟨_, rfl⟩
    rw [hf] at r1 r2 hNt hft
    have CM := Hid.mk (l3Max_ok 1 (x.t - 32 + 1))
    have hm : max 1 (x.t - 32 + 1) = f := by rw [← hf]; unfold frW; omega
    simp only [hm] at CM
    clear hm
    replace hf := Hid.mk hf
    replace hi := Hid.mk hi
    obtain ⟨ft1, ft2⟩ := hft
    clear h1 e1
    go_enter Try.func38, Try.ntmps38
    have B := Below.refl w.heap.size w
    have Bo := B
    replace B := thenB B (belowA w (.cells #[.int .i64 x.t, .int .i64 x.b] 25))
    have VA := V.new w [.int .i64 x.t, .int .i64 x.b] 25
    replace VA := VA.kept (belowA (w.alloc (.cells #[.int .i64 x.t, .int .i64 x.b] 25)) (.cells #[.int .i64 0, .slice none 0 0] 30))
    replace B := thenB B (belowA (w.alloc (.cells #[.int .i64 x.t, .int .i64 x.b] 25)) (.cells #[.int .i64 0, .slice none 0 0] 30))
    have VR : V ((w.alloc (.cells #[.int .i64 x.t, .int .i64 x.b] 25)).alloc (.cells #[.int .i64 0, .slice none 0 0] 30)) (w.heap.size + 1) [.int .i64 0, .slice none 0 0] := V.newAt _ _ _ _ (by simp)
    obtain ⟨s_VA, f_VA, z_VA⟩ := VA.open
    obtain ⟨s_VR, f_VR, z_VR⟩ := VR.open
    have Bo := B
    go_wp2_with fail
    refine (CF.out _).mono ?_
    rintro e w1 ⟨rfl, b1⟩
    clear s_VA f_VA z_VA s_VR f_VR z_VR
    have S1 := b1.size
    simp only [World.size_alloc] at S1
    replace VA := VA.kept b1
    replace VR := VR.kept b1
    replace B := thenB B b1
    clear b1
    obtain ⟨s_VA, f_VA, z_VA⟩ := VA.open
    obtain ⟨s_VR, f_VR, z_VR⟩ := VR.open
    have Bo := B
    replace VA := VA.kept (belowA w1 (.cells #[.int .i64 0, .slice none 0 0] 30))
    replace VR := VR.kept (belowA w1 (.cells #[.int .i64 0, .slice none 0 0] 30))
    replace B := thenB B (belowA w1 (.cells #[.int .i64 0, .slice none 0 0] 30))
    have VO := V.new w1 [.int .i64 0, .slice none 0 0] 30
    clear s_VA f_VA z_VA s_VR f_VR z_VR
    obtain ⟨s_VA, f_VA, z_VA⟩ := VA.open
    obtain ⟨s_VR, f_VR, z_VR⟩ := VR.open
    obtain ⟨s_VO, f_VO, z_VO⟩ := VO.open
    have Bo := B
    go_wp2_with fail
    refine (CM.out _).mono ?_
    rintro e wq ⟨rfl, rfl⟩
    clear s_VA f_VA z_VA s_VR f_VR z_VR s_VO f_VO z_VO
    have hs2 : w.heap.size + 1 < w1.heap.size := by have := S1; omega
    generalize hQ : w1.heap.size = Q at *
    obtain ⟨s_VA, f_VA, z_VA⟩ := VA.open
    have VA1 := Hid.mk VA
    have VR1 := Hid.mk VR
    have VO1 := Hid.mk VO
    have B1 := Hid.mk B
    clear B VR VA VO Bo CF CM
    go_wp2
    go_loopw [5] (fun i wr => ∃ (k j d : Nat) (c : Option Addr) (os : List Int), k ≤ N ∧ i = .int .i64 (f + (k : Int)) ∧ misK x k = os ∧ os.length = j ∧ j ≤ k ∧ Own .i64 2 wr (Q + 1) c d os ∧ V wr w.heap.size [.int .i64 x.t, .int .i64 x.b] ∧ V wr (w.heap.size + 1) [.int .i64 0, .slice none 0 0] ∧ V wr Q [.int .i64 0, .slice c j d] ∧ Below w.heap.size w wr) (fun i _ => (x.t - intOf i).toNat)
    case atStart => exact ⟨0, 0, 0, none, [], Nat.zero_le _, by simp, rfl, rfl, Nat.le_refl _, own_none, VA1.out, VR1.out, VO1.out, B1.out⟩
    case round =>
      clear VA1 VR1 VO1 B1 s_VA f_VA z_VA
      obtain ⟨k, j, d, c, os, hk, rfl, hos, hj, hjk, O, VA, VR, VO, B⟩ := hrel
      by_cases hlt : k < N
      · have hk1 : f + (k : Int) < x.t := by omega
        have hk2 : (k : Int) ≤ 31 := by omega
        have CW := Hid.mk (fun w => l10Had_ok x hi.out (f + (k : Int)) (by omega) w)
        have HJ := Hid.mk hj
        have hOl := O.lt
        have F2 : Hid (∀ b : Addr, c = some b → b.block ≠ w.heap.size) := Hid.mk (fun b hb => by have := (hOl b hb).1; omega)
        have F3 : Hid (∀ b : Addr, c = some b → b.block ≠ w.heap.size + 1) := Hid.mk (fun b hb => by have := (hOl b hb).1; omega)
        have F4 : Hid (∀ b : Addr, c = some b → b.block ≠ Q) := Hid.mk (fun b hb => by have := (hOl b hb).1; omega)
        have HOS := Hid.mk hos
        clear hj hOl hos
        cases hg : had x (f + (k : Int))
        · simp only [hg] at CW
          have hst := Hid.mk (mis_no (k := k) (by rw [hf.out]) hg)
          clear hg
          obtain ⟨s_VA, f_VA, z_VA⟩ := VA.open
          obtain ⟨s_VR, f_VR, z_VR⟩ := VR.open
          obtain ⟨s_VO, f_VO, z_VO⟩ := VO.open
          have Bo := B
          go_wp2_with fail
          refine (CW.out _).mono ?_
          rintro e w41 ⟨rfl, b41⟩
          clear s_VA f_VA z_VA s_VR f_VR z_VR s_VO f_VO z_VO
          have S41 := b41.size
          replace VA := VA.kept b41
          replace VR := VR.kept b41
          replace VO := VO.kept b41
          replace O := O.kept b41
          replace B := thenB B b41
          clear b41
          obtain ⟨s_VA, f_VA, z_VA⟩ := VA.open
          obtain ⟨s_VR, f_VR, z_VR⟩ := VR.open
          obtain ⟨s_VO, f_VO, z_VO⟩ := VO.open
          have Bo := B
          clear s_VA f_VA z_VA s_VR f_VR z_VR s_VO f_VO z_VO
          have O2 := O.kept (belowA w41 (.cells #[.int .i64 (f + (k : Int))] 2))
          have VAL := Hid.mk (VA.kept (belowA w41 (.cells #[.int .i64 (f + (k : Int))] 2)))
          have VRL := Hid.mk (VR.kept (belowA w41 (.cells #[.int .i64 (f + (k : Int))] 2)))
          have VOL := Hid.mk (VO.kept (belowA w41 (.cells #[.int .i64 (f + (k : Int))] 2)))
          have BL := Hid.mk (thenB B (belowA w41 (.cells #[.int .i64 (f + (k : Int))] 2)))
          have TL : Q + 1 ≤ (w41.alloc (.cells #[.int .i64 (f + (k : Int))] 2)).heap.size := by have := VOL.out.1; omega
          have OLT := Hid.mk O2.lt
          obtain ⟨s_VO, f_VO, z_VO⟩ := VO.open
          clear O VA VR VO B Bo CW
          go_wp2_with (at_builtin; go_loud (refine wpList_putI _ rfl _ _ rfl (Q + 1) c d os j HJ.out rfl O2 _ 1 (f + (k : Int)) rfl (cell_one' _ _ _ 0 _ rfl) (by omega) TL ?_))
          intro c4 d4 w4 O4 hg4 hx4
          clear s_VO f_VO z_VO
          have VA := VAL.out.grownR hg4 (row_ne F2.out)
          have VR := VRL.out.grownR hg4 (row_ne F3.out)
          have VO := VOL.out.grownR hg4 (row_ne F4.out)
          have B := belowG BL.out hg4 (by omega) (fun b hb => by have := (OLT.out b hb).1; omega)
          have hl4 : Hid ((os ++ [f + (k : Int)]).length = j + 1) := Hid.mk (by rw [List.length_append, HJ.out]; rfl)
          have VO5 := VO.set (i := 1) (by simp) (.slice c4 (j + 1) d4)
          simp only [List.set_cons_zero, List.set_cons_succ] at VO5
          have O5 := Hid.mk (O4.below (p := ⟨Q, 1, none⟩) (Nat.lt_succ_self _) (.slice c4 (j + 1) d4))
          have VA5 := Hid.mk (VA.other (p := ⟨Q, 1, none⟩) (by simp only; omega) (.slice c4 (j + 1) d4))
          have VR5 := Hid.mk (VR.other (p := ⟨Q, 1, none⟩) (by simp only; omega) (.slice c4 (j + 1) d4))
          have B5 := Hid.mk (B.setCell (p := ⟨Q, 1, none⟩) (by simp only; omega) (.slice c4 (j + 1) d4))
          replace VO5 := Hid.mk VO5
          obtain ⟨s_VO, f_VO, z_VO⟩ := VO.open
          clear O2 VAL VRL VOL BL OLT hg4 hx4 TL VA VR B O4 VO
          go_wp2
          go_roundw
          case rel => exact ⟨k + 1, j + 1, d4, c4, _, by omega, by first | (go_num; done) | (simp; omega), by rw [hst.out, HOS.out], hl4.out, by omega, O5.out, VA5.out, VR5.out, VO5.out, B5.out⟩
          case measure => simp [intOf]; omega
        · simp only [hg] at CW
          have hst := Hid.mk (mis_yes (k := k) (by rw [hf.out]) hg)
          clear hg
          obtain ⟨s_VA, f_VA, z_VA⟩ := VA.open
          obtain ⟨s_VR, f_VR, z_VR⟩ := VR.open
          obtain ⟨s_VO, f_VO, z_VO⟩ := VO.open
          have Bo := B
          go_wp2_with fail
          refine (CW.out _).mono ?_
          rintro e w71 ⟨rfl, b71⟩
          clear s_VA f_VA z_VA s_VR f_VR z_VR s_VO f_VO z_VO
          have S71 := b71.size
          replace VA := VA.kept b71
          replace VR := VR.kept b71
          replace VO := VO.kept b71
          replace O := O.kept b71
          replace B := thenB B b71
          clear b71
          obtain ⟨s_VA, f_VA, z_VA⟩ := VA.open
          obtain ⟨s_VR, f_VR, z_VR⟩ := VR.open
          obtain ⟨s_VO, f_VO, z_VO⟩ := VO.open
          have Bo := B
          clear s_VA f_VA z_VA s_VR f_VR z_VR s_VO f_VO z_VO
          replace VA := Hid.mk VA
          replace VR := Hid.mk VR
          replace VO := Hid.mk VO
          replace B := Hid.mk B
          replace O := Hid.mk O
          clear Bo CW
          go_wp2
          go_roundw
          case rel => exact ⟨k + 1, j, d, c, os, by omega, by first | (go_num; done) | (simp; omega), by rw [hst.out, HOS.out], HJ.out, by omega, O.out, VA.out, VR.out, VO.out, B.out⟩
          case measure => simp [intOf]; omega
      · obtain rfl : k = N := by omega
        have hk1 : ¬ (f + (k : Int) < x.t) := by omega
        have HO := Hid.mk (O.mono (show w.heap.size ≤ _ by omega))
        have HC := Hid.mk (fun b hb => (O.lt b hb).1)
        have HJ := Hid.mk hj
        have HOS := Hid.mk hos
        clear O hj hos
        obtain ⟨s_VA, f_VA, z_VA⟩ := VA.open
        obtain ⟨s_VR, f_VR, z_VR⟩ := VR.open
        obtain ⟨s_VO, f_VO, z_VO⟩ := VO.open
        have Bo := B
        clear s_VA f_VA z_VA s_VR f_VR z_VR s_VO f_VO z_VO
        have VF := Hid.mk (VR.filled [.int .i64 0, .slice c j d] rfl)
        have BR := belowCells B (show w.heap.size ≤ w.heap.size + 1 by (first | omega | (simp; done) | (simp; omega))) 0 [.int .i64 0, .slice c j d]
        have HT := Hid.mk VR.there
        replace BR := Hid.mk BR
        obtain ⟨s_VA, f_VA, z_VA⟩ := VA.open
        obtain ⟨s_VR, f_VR, z_VR⟩ := VR.open
        obtain ⟨s_VO, f_VO, z_VO⟩ := VO.open
        go_wp2_with (refine wpList_store_mid rfl 30 _ _ rfl (w.heap.size + 1) 0 #[.int .i64 0, .slice c j d] rfl rfl HT.out (by kernel_rfl) (by kernel_rfl) ?_)
        refine bodyPost_ret (v := .agg #[.int .i64 0, .slice c j d]) (results_row Try.results38 _ _ (w.heap.size + 1) [.int .i64 0, .slice c j d] _ rfl VF.out Try.underlying30 rfl (by kernel_rfl)) rfl ⟨c, d, by rw [HOS.out, HJ.out], HOS.out.symm ▸ ownCellsW HO.out (by intro b hb; have := HC.out b hb; omega) _ _, BR.out⟩

end Go.Proofs.Ytkpdbdcfimdnjaa
