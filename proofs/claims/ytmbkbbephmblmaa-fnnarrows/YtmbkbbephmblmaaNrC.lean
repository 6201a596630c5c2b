/- Lists of selectors narrowed: the program's walk. -/
import Derived.Test.YtmbkbbephmblmaaNrB
import Derived.Test.YtmbkbbephmblmaaNewC
import Derived.WalkMore
namespace Go.Proofs.Ytmbkbbephmblmaa
open Go.RowKit

set_option maxRecDepth 20000 in
set_option maxHeartbeats 8000000 in
theorem meetEach_ok (a b : Option Addr) (n m ca cb : Nat) (xs ys full : List S9) (w : World) (ha : RdL w a xs) (hb : RdL w b ys) (hn : xs.length = n) (hm : ys.length = m) (hxn : n ≤ 12) (hxm : m ≤ 12)
    (hrx : ∀ o ∈ xs, sfC o = 0) (hry : ∀ o ∈ ys, sfC o = 0) (hfull : nall ys xs [] = full) :
    Calls Try.prog 63 #[.slice a n ca, .slice b m cb] w fun e w' => ∃ (c : Option Addr) (d k : Nat) (zs : List S9), e = .returned (.slice c k d) ∧ zs.length = k ∧ OwnL w' w.heap.size c d zs ∧ ((zs = full ∧ k ≤ 12) ∨ (k = 13 ∧ 12 < full.length)) ∧ Below w.heap.size w w' := by
  replace ha := Hid.mk ha
  replace hb := Hid.mk hb
  replace hrx := Hid.mk hrx
  replace hry := Hid.mk hry
  go_enter Try.func63, Try.ntmps63
  go_wp2
  go_step3
  go_wp2
  go_step3
  go_wp2
  go_loopw [5, 13] (fun met i wr => ∃ (k nout d : Nat) (c : Option Addr) (out : List S9), k ≤ n ∧ i = .int .i64 k ∧ met = .slice c nout d ∧ out.length = nout ∧ nout ≤ 12 ∧ OwnL wr w.heap.size c d out ∧ (∀ o ∈ out, sfC o = 0) ∧ nall ys (xs.drop k) out = full ∧ Below w.heap.size w wr) (fun _ i _ => n - (intOf i).toNat)
  case atStart => exact ⟨0, 0, 0, none, [], Nat.zero_le _, rfl, rfl, rfl, Nat.zero_le _, OwnL.none, (by simp), hfull, Below.refl _ _⟩
  case round =>
    clear hfull
    obtain ⟨k, nout, d, c, out, hk, rfl, rfl, hno, ho12, O, hro, hna, B⟩ := hrel
    by_cases hlt : k < n
    · obtain ⟨x, hx1⟩ : ∃ x, xs.getD k z9 = x := ⟨_, rfl⟩
      have hsx : sfC x = 0 := hrx.out x (by rw [← hx1]; exact getD_mem (by omega))
      have hna2 := nall_next hna (by omega) hx1
      have hac := ha.out.kept B
      rcases hac with h0 | ⟨b1, o1, rfl, hca⟩
      · simp [h0] at hn; omega
      obtain ⟨p0, p1, p2, p3, p4, p5, p6, p7, p8⟩ := RdL.nine hca k (by omega) x hx1
      have hk1 : (k : Int) < (n : Int) := by omega
      clear hca hx1 hna
      have VX := V.new wr [.int .i64 x.a, .int .i64 x.b, .int .i64 x.c, .int .i64 x.d, .int .i64 x.e, .int .i64 x.f, .int .i64 x.g, .int .i64 x.h, .int .i64 x.r] 27
      have hB1 := B.size
      have hlt1 : ∀ b : Addr, c = some b → b.block ≠ wr.heap.size := fun b hb => by have := (O.lt b hb).2; omega
      replace O := O.kept (belowA wr (.cells #[.int .i64 x.a, .int .i64 x.b, .int .i64 x.c, .int .i64 x.d, .int .i64 x.e, .int .i64 x.f, .int .i64 x.g, .int .i64 x.h, .int .i64 x.r] 27))
      replace B := thenB B (belowA wr (.cells #[.int .i64 x.a, .int .i64 x.b, .int .i64 x.c, .int .i64 x.d, .int .i64 x.e, .int .i64 x.f, .int .i64 x.g, .int .i64 x.h, .int .i64 x.r] 27))
      replace hna2 := Hid.mk hna2
      have HO := Hid.mk hno
      replace VX := Hid.mk VX
      replace O := Hid.mk O
      replace B := Hid.mk B
      replace hro := Hid.mk hro
      replace hlt1 := Hid.mk hlt1
      clear hno
      go_wp2
      generalize wr.heap.size = Bx at *
      go_loopw [5, 19] (fun met i wr2 => ∃ (j nout d : Nat) (c : Option Addr) (out : List S9), j ≤ m ∧ i = .int .i64 j ∧ met = .slice c nout d ∧ out.length = nout ∧ nout ≤ 12 ∧ OwnL wr2 w.heap.size c d out ∧ (∀ o ∈ out, sfC o = 0) ∧ nall ys (xs.drop (k + 1)) (nrow x (ys.drop j) out) = full ∧ V wr2 Bx [.int .i64 x.a, .int .i64 x.b, .int .i64 x.c, .int .i64 x.d, .int .i64 x.e, .int .i64 x.f, .int .i64 x.g, .int .i64 x.h, .int .i64 x.r] ∧ (∀ b : Addr, c = some b → b.block ≠ Bx) ∧ Below w.heap.size w wr2) (fun _ i _ => m - (intOf i).toNat)
      case atStart => exact ⟨0, nout, d, c, out, Nat.zero_le _, rfl, rfl, HO.out, ho12, O.out, hro.out, hna2.out, VX.out, hlt1.out, B.out⟩
      case round =>
        clear hna2 HO VX O B hro hlt1 ho12 p0 p1 p2 p3 p4 p5 p6 p7 p8
        obtain ⟨j, nout, d, c, out, hj, rfl, rfl, hno, ho12, O, hro, hna, VX, hne, B⟩ := hrel
        by_cases hlt : j < m
        · obtain ⟨y, hy1⟩ : ∃ y, ys.getD j z9 = y := ⟨_, rfl⟩
          have hsy : sfC y = 0 := hry.out y (by rw [← hy1]; exact getD_mem (by omega))
          rw [nrow_next (by omega) hy1] at hna
          have hbc := hb.out.kept B
          rcases hbc with h0 | ⟨b2, o2, rfl, hcb⟩
          · simp [h0] at hm; omega
          obtain ⟨q0, q1, q2, q3, q4, q5, q6, q7, q8⟩ := RdL.nine hcb j (by omega) y hy1
          have hj1 : (j : Int) < (m : Int) := by omega
          clear hcb hy1
          replace hna := Hid.mk hna
          have HO := Hid.mk hno
          replace hro := Hid.mk hro
          replace hne := Hid.mk hne
          have CM := Hid.mk (fun w => implMeetSels_ok x y w)
          clear hno
          replace VX := VX.kept (belowA wr (.cells #[.int .i64 y.a, .int .i64 y.b, .int .i64 y.c, .int .i64 y.d, .int .i64 y.e, .int .i64 y.f, .int .i64 y.g, .int .i64 y.h, .int .i64 y.r] 27))
          replace O := O.kept (belowA wr (.cells #[.int .i64 y.a, .int .i64 y.b, .int .i64 y.c, .int .i64 y.d, .int .i64 y.e, .int .i64 y.f, .int .i64 y.g, .int .i64 y.h, .int .i64 y.r] 27))
          replace B := thenB B (belowA wr (.cells #[.int .i64 y.a, .int .i64 y.b, .int .i64 y.c, .int .i64 y.d, .int .i64 y.e, .int .i64 y.f, .int .i64 y.g, .int .i64 y.h, .int .i64 y.r] 27))
          have VY := V.new wr [.int .i64 y.a, .int .i64 y.b, .int .i64 y.c, .int .i64 y.d, .int .i64 y.e, .int .i64 y.f, .int .i64 y.g, .int .i64 y.h, .int .i64 y.r] 27
          obtain ⟨s_VX, f_VX, z_VX⟩ := VX.open
          obtain ⟨s_VY, f_VY, z_VY⟩ := VY.open
          have Bo := B
          go_wp2_with fail
          refine (CM.out _).mono ?_
          rintro e w1 ⟨rfl, b1⟩
          clear s_VX f_VX z_VX s_VY f_VY z_VY
          have S1 := b1.size
          simp only [World.size_alloc] at S1
          replace VX := VX.kept b1
          replace VY := VY.kept b1
          replace O := O.kept b1
          replace B := thenB B b1
          clear b1
          obtain ⟨s_VX, f_VX, z_VX⟩ := VX.open
          obtain ⟨s_VY, f_VY, z_VY⟩ := VY.open
          have Bo := B
          clear q0 q1 q2 q3 q4 q5 q6 q7 q8
          replace VX := VX.kept (belowA w1 (.cells #[.int .i64 (mtC x y), .int .i64 (mtS x y).a, .int .i64 (mtS x y).b, .int .i64 (mtS x y).c, .int .i64 (mtS x y).d, .int .i64 (mtS x y).e, .int .i64 (mtS x y).f, .int .i64 (mtS x y).g, .int .i64 (mtS x y).h, .int .i64 (mtS x y).r] 31))
          replace VY := VY.kept (belowA w1 (.cells #[.int .i64 (mtC x y), .int .i64 (mtS x y).a, .int .i64 (mtS x y).b, .int .i64 (mtS x y).c, .int .i64 (mtS x y).d, .int .i64 (mtS x y).e, .int .i64 (mtS x y).f, .int .i64 (mtS x y).g, .int .i64 (mtS x y).h, .int .i64 (mtS x y).r] 31))
          replace O := O.kept (belowA w1 (.cells #[.int .i64 (mtC x y), .int .i64 (mtS x y).a, .int .i64 (mtS x y).b, .int .i64 (mtS x y).c, .int .i64 (mtS x y).d, .int .i64 (mtS x y).e, .int .i64 (mtS x y).f, .int .i64 (mtS x y).g, .int .i64 (mtS x y).h, .int .i64 (mtS x y).r] 31))
          replace B := thenB B (belowA w1 (.cells #[.int .i64 (mtC x y), .int .i64 (mtS x y).a, .int .i64 (mtS x y).b, .int .i64 (mtS x y).c, .int .i64 (mtS x y).d, .int .i64 (mtS x y).e, .int .i64 (mtS x y).f, .int .i64 (mtS x y).g, .int .i64 (mtS x y).h, .int .i64 (mtS x y).r] 31))
          have VM := V.new w1 [.int .i64 (mtC x y), .int .i64 (mtS x y).a, .int .i64 (mtS x y).b, .int .i64 (mtS x y).c, .int .i64 (mtS x y).d, .int .i64 (mtS x y).e, .int .i64 (mtS x y).f, .int .i64 (mtS x y).g, .int .i64 (mtS x y).h, .int .i64 (mtS x y).r] 31
          clear s_VX f_VX z_VX s_VY f_VY z_VY
          obtain ⟨s_VX, f_VX, z_VX⟩ := VX.open
          obtain ⟨s_VY, f_VY, z_VY⟩ := VY.open
          obtain ⟨s_VM, f_VM, z_VM⟩ := VM.open
          have Bo := B
          by_cases hmt : mtC x y = 0
          · skip
            have hsz := mt_fault hsx hsy hmt
            have hm0 : (mtC x y != 0) = false := by simp [hmt]
            have CW := Hid.mk (fun w h => isWithinAny_ok (mtS x y) c nout d out w h HO.out (by unfold maxLen; omega))
            rw [nin_wi hsz hro.out] at CW
            have hp1 := fun h => nstep_put (out := out) hmt h
            have hp2 := fun h => nstep_in (x := x) (y := y) (out := out) h
            clear s_VX f_VX z_VX s_VY f_VY z_VY s_VM f_VM z_VM
            generalize mtS x y = z at *
            generalize mtC x y = kk at *
            subst hmt
            obtain ⟨s_VX, f_VX, z_VX⟩ := VX.open
            obtain ⟨s_VY, f_VY, z_VY⟩ := VY.open
            obtain ⟨s_VM, f_VM, z_VM⟩ := VM.open
            have Bo := B
            go_wp2_with fail
            refine (CW.out _ O.rd).mono ?_
            rintro e w2 ⟨rfl, b2⟩
            clear s_VX f_VX z_VX s_VY f_VY z_VY s_VM f_VM z_VM
            have S2 := b2.size
            simp only [World.size_alloc] at S2
            replace VX := VX.kept b2
            replace VY := VY.kept b2
            replace VM := VM.kept b2
            replace O := O.kept b2
            replace B := thenB B b2
            clear b2
            obtain ⟨s_VX, f_VX, z_VX⟩ := VX.open
            obtain ⟨s_VY, f_VY, z_VY⟩ := VY.open
            obtain ⟨s_VM, f_VM, z_VM⟩ := VM.open
            have Bo := B
            cases hg : nin out z
            · skip
              replace hna := hna.out
              rw [hp1 hg] at hna
              replace hna := Hid.mk hna
              clear s_VX f_VX z_VX s_VY f_VY z_VY s_VM f_VM z_VM
              have hBs := B.size
              have Sv := VX.1
              obtain ⟨s_VX, f_VX, z_VX⟩ := VX.open
              obtain ⟨s_VY, f_VY, z_VY⟩ := VY.open
              obtain ⟨s_VM, f_VM, z_VM⟩ := VM.open
              have OL := O.kept (belowA w2 (.cells #[.int .i64 z.a, .int .i64 z.b, .int .i64 z.c, .int .i64 z.d, .int .i64 z.e, .int .i64 z.f, .int .i64 z.g, .int .i64 z.h, .int .i64 z.r] 27))
              have VL := VX.kept (belowA w2 (.cells #[.int .i64 z.a, .int .i64 z.b, .int .i64 z.c, .int .i64 z.d, .int .i64 z.e, .int .i64 z.f, .int .i64 z.g, .int .i64 z.h, .int .i64 z.r] 27))
              have BL := thenB B (belowA w2 (.cells #[.int .i64 z.a, .int .i64 z.b, .int .i64 z.c, .int .i64 z.d, .int .i64 z.e, .int .i64 z.f, .int .i64 z.g, .int .i64 z.h, .int .i64 z.r] 27))
              have SL := VL.1
              have TL := BL.size
              replace VL := Hid.mk VL
              replace BL := Hid.mk BL
              clear B Bo O VX
              go_wp2_with (at_builtin; go_loud (refine wpList_putL _ rfl _ _ rfl w.heap.size c d out nout HO.out rfl OL _ 1 z rfl (newCells _ _ (rowV z)) (by omega) TL ?_))
              intro c4 d4 w4 O4 hg4 hx4
              have hx4 := hx4.out
              replace VX := VL.out.grownR hg4 (row_ne hne.out)
              replace hne := Hid.mk (ne_put hne.out (by simpa using SL) hx4)
              replace B := belowG BL.out hg4 TL (fun b hb => (OL.lt b hb).1)
              have hl4 : (out ++ [z]).length = nout + 1 := by rw [List.length_append, HO.out]; rfl
              have hr4 := right_put hro.out hsz
              clear OL VL BL SL TL hg4 hx4
              by_cases h12 : nout = 12
              · have q1 : (12 : Int) < (nout : Int) + 1 := by omega
                have hbig : 12 < full.length := by
                  have h1 := nall_le ys (xs.drop (k + 1)) (nrow x (ys.drop (j + 1)) (out ++ [z]))
                  have h2 := nrow_le x (ys.drop (j + 1)) (out ++ [z])
                  rw [hna.out] at h1
                  omega
                replace B := Hid.mk B
                replace O4 := Hid.mk O4
                have hn13 : nout + 1 = 13 := by omega
                go_wp2
                (try rw [Exit.noGoto_ret])
                go_ret
                exact ⟨c4, d4, _, out ++ [z], rfl, hl4, O4.out, .inr ⟨hn13, hbig⟩, B.out⟩
              · have q1 : ¬ (12 : Int) < (nout : Int) + 1 := by omega
                have hle : nout + 1 ≤ 12 := by omega
                replace hl4 := Hid.mk hl4
                replace B := Hid.mk B
                replace O4 := Hid.mk O4
                replace VX := Hid.mk VX
                replace hr4 := Hid.mk hr4
                go_wp2
                go_roundw
                case rel => exact ⟨j + 1, nout + 1, d4, c4, out ++ [z], by omega, by go_num, rfl, hl4.out, hle, O4.out, hr4.out, hna.out, VX.out, hne.out, B.out⟩
                case measure => simp [intOf]; omega
            · skip
              replace hna := hna.out
              rw [hp2 hg] at hna
              replace hna := Hid.mk hna
              clear s_VX f_VX z_VX s_VY f_VY z_VY s_VM f_VM z_VM
              obtain ⟨s_VX, f_VX, z_VX⟩ := VX.open
              obtain ⟨s_VY, f_VY, z_VY⟩ := VY.open
              obtain ⟨s_VM, f_VM, z_VM⟩ := VM.open
              go_wp2
              go_roundw
              case rel => exact ⟨j + 1, nout, d, c, out, by omega, by go_num, rfl, HO.out, ho12, O, hro.out, hna.out, VX, hne.out, Bo⟩
              case measure => simp [intOf]; omega
          · skip
            have hm0 : (mtC x y != 0) = true := by simp [hmt]
            replace hna := hna.out
            rw [nstep_no hmt] at hna
            replace hna := Hid.mk hna
            go_wp2
            go_roundw
            case rel => exact ⟨j + 1, nout, d, c, out, by omega, by go_num, rfl, HO.out, ho12, O, hro.out, hna.out, VX, hne.out, Bo⟩
            case measure => simp [intOf]; omega
        · have hjm : j = m := by omega
          subst hjm
          rw [nrow_end (by omega)] at hna
          replace hna := Hid.mk hna
          replace hno := Hid.mk hno
          replace hro := Hid.mk hro
          go_wp2
          go_roundw
          case rel => exact ⟨k + 1, nout, d, c, out, by omega, by go_num, rfl, hno.out, ho12, O, hro.out, hna.out, B⟩
          case measure => simp [intOf]; omega
    · have hkn : k = n := by omega
      subst hkn
      rw [nall_end (by omega)] at hna
      have HN := Hid.mk hna
      have HO := Hid.mk hno
      clear hna hno
      go_wp2
      (try rw [Exit.noGoto_ret])
      go_ret
      exact ⟨c, d, nout, out, rfl, HO.out, O, .inl ⟨HN.out, ho12⟩, B⟩

end Go.Proofs.Ytmbkbbephmblmaa
