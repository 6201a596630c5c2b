/- The law FnWithin: its walk. -/
import Derived.Test.YtmbkbbephmblmaaDSel4
import Derived.Test.YtmbkbbephmblmaaPur
import Derived.Test.YtmbkbbephmblmaaMtB
import Derived.Test.YtmbkbbephmblmaaRevI
import Derived.Test.YtmbkbbephmblmaaRev
import Derived.Test.YtmbkbbephmblmaaRow
import Derived.Test.YtmbkbbephmblmaaSelZ
import Derived.Test.YtmbkbbephmblmaaSelX
namespace Go.Proofs.Ytmbkbbephmblmaa
open Go.RowKit

theorem nilCap {w : World} {a : Option Addr} {len cap : Nat} {zs : List Int}
    (h : (a = none ∧ len = 0 ∧ cap = 0 ∧ zs = []) ∨ ∃ x : Addr, a = some x ∧ len ≤ cap ∧ cap ≤ maxLen ∧ zs.length = cap ∧ (∀ i, i < zs.length → w.cell? (x.add i) = some (.int .u8 (zs.getD i 0))) ∧ ∀ n ∈ zs, (Lit.int .u8 n).wf = true) : a = none → cap = 0 := by
  intro ha
  rcases h with ⟨_, _, h3, _⟩ | ⟨x, h1, _⟩
  · exact h3
  · rw [h1] at ha; cases ha

theorem fieldSel (k : Value) (x : S9) (w : World) : (Instr.field 31 (.agg #[k, .int .i64 x.a, .int .i64 x.b, .int .i64 x.c, .int .i64 x.d, .int .i64 x.e, .int .i64 x.f, .int .i64 x.g, .int .i64 x.h, .int .i64 x.r]) 1).run Try.prog w = .ok (.agg #[.int .i64 x.a, .int .i64 x.b, .int .i64 x.c, .int .i64 x.d, .int .i64 x.e, .int .i64 x.f, .int .i64 x.g, .int .i64 x.h, .int .i64 x.r]) w := by kernel_rfl

theorem eqSelSelf (x : S9) (w : World) : (Op.equalIn 10000 27 (.agg #[.int .i64 x.a, .int .i64 x.b, .int .i64 x.c, .int .i64 x.d, .int .i64 x.e, .int .i64 x.f, .int .i64 x.g, .int .i64 x.h, .int .i64 x.r]) (.agg #[.int .i64 x.a, .int .i64 x.b, .int .i64 x.c, .int .i64 x.d, .int .i64 x.e, .int .i64 x.f, .int .i64 x.g, .int .i64 x.h, .int .i64 x.r])).run Try.prog w = .ok true w := by
  have u3 := Try.underlying2
  have a3 := Try.isAgg2
  have z3 := Try.sizeOf2
  have ga := Try.isAgg25
  have gz := Try.sizeOf25
  have q := fun a b c e w => eqRng 9997 a b c e w
  have hS : Try.prog.underlying 27 = some (.struct (Try.prog.fieldsOf 27)) := by kernel_rfl
  rw [show (10000 : Nat) = 9999 + 1 from rfl, run_equalIn_agg w 9999 27 _ _ hS (by kernel_rfl)]
  simp only [Program.fieldsOf, Try.underlying27]
  go_simp

theorem neqSelSelf (x : S9) (w : World) : (binOp .neq 27 (.agg #[.int .i64 x.a, .int .i64 x.b, .int .i64 x.c, .int .i64 x.d, .int .i64 x.e, .int .i64 x.f, .int .i64 x.g, .int .i64 x.h, .int .i64 x.r]) (.agg #[.int .i64 x.a, .int .i64 x.b, .int .i64 x.c, .int .i64 x.d, .int .i64 x.e, .int .i64 x.f, .int .i64 x.g, .int .i64 x.h, .int .i64 x.r])).run Try.prog w = .ok (.bool false) w := by
  rw [run_neq_struct, eqSelSelf]
  rfl

theorem bytes3 {xs : List Int} (h : Bytes xs) : Bytes (3 :: xs) := by
  intro z hz
  rcases List.mem_cons.1 hz with h1 | h1
  · subst h1; omega
  · exact h z h1

theorem implReverse_ok (x : S9) (w : World) (h : sfC x = 0) :
    Calls Try.prog 20 #[.agg #[.int .i64 x.a, .int .i64 x.b, .int .i64 x.c, .int .i64 x.d, .int .i64 x.e, .int .i64 x.f, .int .i64 x.g, .int .i64 x.h, .int .i64 x.r]] w fun e w' => e = .returned (.agg #[.int .i64 0, .int .i64 x.c, .int .i64 x.d, .int .i64 x.a, .int .i64 x.b, .int .i64 x.g, .int .i64 x.h, .int .i64 x.e, .int .i64 x.f, .int .i64 x.r]) ∧ Below w.heap.size w w' := implRev1 x w h

theorem implReverse2_ok (x : S9) (w : World) (h : sfC x = 0) :
    Calls Try.prog 20 #[.agg #[.int .i64 x.c, .int .i64 x.d, .int .i64 x.a, .int .i64 x.b, .int .i64 x.g, .int .i64 x.h, .int .i64 x.e, .int .i64 x.f, .int .i64 x.r]] w fun e w' => e = .returned (.agg #[.int .i64 0, .int .i64 x.a, .int .i64 x.b, .int .i64 x.c, .int .i64 x.d, .int .i64 x.e, .int .i64 x.f, .int .i64 x.g, .int .i64 x.h, .int .i64 x.r]) ∧ Below w.heap.size w w' :=
  implRev1 (rvS x) w ((sfC_rev x).trans h)

theorem implHoldsRev_ok (x : S9) (f t r l u v : Int) (s : Option Addr) (n ca : Nat) (w : World) :
    Calls Try.prog 17 #[.agg #[.int .i64 x.c, .int .i64 x.d, .int .i64 x.a, .int .i64 x.b, .int .i64 x.g, .int .i64 x.h, .int .i64 x.e, .int .i64 x.f, .int .i64 x.r], .agg #[.int .i64 t, .int .i64 f, .int .i64 r, .int .i64 l, .int .i64 v, .int .i64 u, .slice s n ca]] w fun e w' => e = .returned (.bool (hoP x f t r l u v n)) ∧ Below w.heap.size w w' := by
  have h := implHolds_ok (rvS x) t f r l v u s n ca w
  rw [hoP_rev] at h
  exact h

set_option maxRecDepth 20000 in
set_option maxHeartbeats 8000000 in
theorem xWithinL_walk (a : Option Addr) (n ca : Nat) (xs : List Int) (w : World) (hR : Rd .u8 w a xs) (hB : Bytes xs) (hn : xs.length = n) (hcn : a = none → ca = 0) :
    Calls Try.prog 4 #[.slice a n ca] w fun e w' => e = .returned (.bool true) ∧ Below w.heap.size w w' := by
  by_cases hbig : (n : Int) ≤ 1048576
  · have e0 := extractP0
    have e1 := extractP1
    go_enter Try.func4, Try.ntmps4
    go_wp2_with (first | (go_at_call 9; go_in) | fail)
    refine (drawWithinSel_ok a n ca xs _ hR hB hn (by omega)).mono ?_
    rintro e w1 ⟨x, y, rfl, B⟩
    have R := hR.kept B
    have CX := Hid.mk (fun w => specSelFault_ok x w)
    have CY := Hid.mk (fun w => specSelFault_ok y w)
    have CW := Hid.mk (fun w => implWithinSel_ok x y w)
    replace R := R.kept (belowA w1 (.cells #[.int .i64 x.a, .int .i64 x.b, .int .i64 x.c, .int .i64 x.d, .int .i64 x.e, .int .i64 x.f, .int .i64 x.g, .int .i64 x.h, .int .i64 x.r] 27))
    replace B := thenB B (belowA w1 (.cells #[.int .i64 x.a, .int .i64 x.b, .int .i64 x.c, .int .i64 x.d, .int .i64 x.e, .int .i64 x.f, .int .i64 x.g, .int .i64 x.h, .int .i64 x.r] 27))
    have VA := V.new w1 [.int .i64 x.a, .int .i64 x.b, .int .i64 x.c, .int .i64 x.d, .int .i64 x.e, .int .i64 x.f, .int .i64 x.g, .int .i64 x.h, .int .i64 x.r] 27
    replace VA := VA.kept (belowA (w1.alloc (.cells #[.int .i64 x.a, .int .i64 x.b, .int .i64 x.c, .int .i64 x.d, .int .i64 x.e, .int .i64 x.f, .int .i64 x.g, .int .i64 x.h, .int .i64 x.r] 27)) (.cells #[.int .i64 y.a, .int .i64 y.b, .int .i64 y.c, .int .i64 y.d, .int .i64 y.e, .int .i64 y.f, .int .i64 y.g, .int .i64 y.h, .int .i64 y.r] 27))
    replace R := R.kept (belowA (w1.alloc (.cells #[.int .i64 x.a, .int .i64 x.b, .int .i64 x.c, .int .i64 x.d, .int .i64 x.e, .int .i64 x.f, .int .i64 x.g, .int .i64 x.h, .int .i64 x.r] 27)) (.cells #[.int .i64 y.a, .int .i64 y.b, .int .i64 y.c, .int .i64 y.d, .int .i64 y.e, .int .i64 y.f, .int .i64 y.g, .int .i64 y.h, .int .i64 y.r] 27))
    replace B := thenB B (belowA (w1.alloc (.cells #[.int .i64 x.a, .int .i64 x.b, .int .i64 x.c, .int .i64 x.d, .int .i64 x.e, .int .i64 x.f, .int .i64 x.g, .int .i64 x.h, .int .i64 x.r] 27)) (.cells #[.int .i64 y.a, .int .i64 y.b, .int .i64 y.c, .int .i64 y.d, .int .i64 y.e, .int .i64 y.f, .int .i64 y.g, .int .i64 y.h, .int .i64 y.r] 27))
    have VB : V ((w1.alloc (.cells #[.int .i64 x.a, .int .i64 x.b, .int .i64 x.c, .int .i64 x.d, .int .i64 x.e, .int .i64 x.f, .int .i64 x.g, .int .i64 x.h, .int .i64 x.r] 27)).alloc (.cells #[.int .i64 y.a, .int .i64 y.b, .int .i64 y.c, .int .i64 y.d, .int .i64 y.e, .int .i64 y.f, .int .i64 y.g, .int .i64 y.h, .int .i64 y.r] 27)) (w1.heap.size + 1) [.int .i64 y.a, .int .i64 y.b, .int .i64 y.c, .int .i64 y.d, .int .i64 y.e, .int .i64 y.f, .int .i64 y.g, .int .i64 y.h, .int .i64 y.r] := V.newAt _ _ _ _ (by simp)
    by_cases hx : sfC x = 0
    · by_cases hy : sfC y = 0
      · rw [hx] at CX
        rw [hy] at CY
        obtain ⟨s_VA, f_VA, z_VA⟩ := VA.open
        obtain ⟨s_VB, f_VB, z_VB⟩ := VB.open
        have Bo := B
        go_wp2_with fail
        refine (CX.out _).mono ?_
        rintro e w2 ⟨rfl, b2⟩
        clear s_VA f_VA z_VA s_VB f_VB z_VB
        have S2 := b2.size
        simp only [World.size_alloc] at S2
        replace VA := VA.kept b2
        replace VB := VB.kept b2
        replace R := R.kept b2
        replace B := thenB B b2
        clear b2
        obtain ⟨s_VA, f_VA, z_VA⟩ := VA.open
        obtain ⟨s_VB, f_VB, z_VB⟩ := VB.open
        have Bo := B
        go_wp2_with fail
        refine (CY.out _).mono ?_
        rintro e w3 ⟨rfl, b3⟩
        clear s_VA f_VA z_VA s_VB f_VB z_VB
        have S3 := b3.size
        replace VA := VA.kept b3
        replace VB := VB.kept b3
        replace R := R.kept b3
        replace B := thenB B b3
        clear b3
        obtain ⟨s_VA, f_VA, z_VA⟩ := VA.open
        obtain ⟨s_VB, f_VB, z_VB⟩ := VB.open
        have Bo := B
        obtain ⟨i0, hi, j0, j1, j2⟩ := info_parts Try.info_u8
        have OL : Own .u8 5 (w3.alloc (.cells #[.int .u8 3] 5)) w3.heap.size (some ⟨w3.heap.size, 0, none⟩) 1 [3] := Own.lit w3 5 [3] (by decide)
        clear s_VA f_VA z_VA s_VB f_VB z_VB
        have hB3 := B.size
        replace VA := VA.kept (belowA w3 (.cells #[.int .u8 3] 5))
        replace VB := VB.kept (belowA w3 (.cells #[.int .u8 3] 5))
        replace R := R.kept (belowA w3 (.cells #[.int .u8 3] 5))
        replace B := thenB B (belowA w3 (.cells #[.int .u8 3] 5))
        have Sv := VA.1
        have Sw := VB.1
        go_wp2_with (at_builtin; go_loud (refine wpList_put _ rfl _ _ 22 rfl w3.heap.size 5 i0 Try.underlying22 hi j0 j1 j2 _ _ 1 [3] rfl OL rfl _ _ _ xs rfl R hn hcn (1 + n) (3 :: xs) rfl rfl (by omega) (by simp) ?_))
        intro c4 d4 w4 O4 b4
        have hb4 := b4.size
        simp only [World.size_alloc] at hb4 Sv Sw
        replace VA := VA.keptB (by omega) b4
        replace VB := VB.keptB (by omega) b4
        replace B := B.trans (b4.mono hB3)
        clear R OL b4
        obtain ⟨s_VA, f_VA, z_VA⟩ := VA.open
        obtain ⟨s_VB, f_VB, z_VB⟩ := VB.open
        have Bo := B
        have hn4 : (3 :: xs).length = 1 + n := by simp; omega
        have hb3 := bytes3 hB
        generalize 3 :: xs = zs4 at *
        go_wp2_with fail
        refine (drawHolds_ok c4 (1 + n) d4 zs4 _ O4.rd hb3 hn4 (by omega)).mono ?_
        rintro e w5 ⟨x', f, t', r, l, u, v, s, m, d, ys, rfl, hys, hm, RP, b5⟩
        clear s_VA f_VA z_VA s_VB f_VB z_VB
        have S5 := b5.size
        replace VA := VA.kept b5
        replace VB := VB.kept b5
        replace B := thenB B b5
        clear b5
        obtain ⟨s_VA, f_VA, z_VA⟩ := VA.open
        obtain ⟨s_VB, f_VB, z_VB⟩ := VB.open
        have Bo := B
        replace VA := VA.kept (belowA w5 (.cells #[.int .i64 x'.a, .int .i64 x'.b, .int .i64 x'.c, .int .i64 x'.d, .int .i64 x'.e, .int .i64 x'.f, .int .i64 x'.g, .int .i64 x'.h, .int .i64 x'.r] 27))
        replace VB := VB.kept (belowA w5 (.cells #[.int .i64 x'.a, .int .i64 x'.b, .int .i64 x'.c, .int .i64 x'.d, .int .i64 x'.e, .int .i64 x'.f, .int .i64 x'.g, .int .i64 x'.h, .int .i64 x'.r] 27))
        replace RP := RP.kept (belowA w5 (.cells #[.int .i64 x'.a, .int .i64 x'.b, .int .i64 x'.c, .int .i64 x'.d, .int .i64 x'.e, .int .i64 x'.f, .int .i64 x'.g, .int .i64 x'.h, .int .i64 x'.r] 27))
        replace B := thenB B (belowA w5 (.cells #[.int .i64 x'.a, .int .i64 x'.b, .int .i64 x'.c, .int .i64 x'.d, .int .i64 x'.e, .int .i64 x'.f, .int .i64 x'.g, .int .i64 x'.h, .int .i64 x'.r] 27))
        have V5 := V.new w5 [.int .i64 x'.a, .int .i64 x'.b, .int .i64 x'.c, .int .i64 x'.d, .int .i64 x'.e, .int .i64 x'.f, .int .i64 x'.g, .int .i64 x'.h, .int .i64 x'.r] 27
        replace VA := VA.kept (belowA (w5.alloc (.cells #[.int .i64 x'.a, .int .i64 x'.b, .int .i64 x'.c, .int .i64 x'.d, .int .i64 x'.e, .int .i64 x'.f, .int .i64 x'.g, .int .i64 x'.h, .int .i64 x'.r] 27)) (.cells #[.int .i64 f, .int .i64 t', .int .i64 r, .int .i64 l, .int .i64 u, .int .i64 v, .slice s m d] 35))
        replace VB := VB.kept (belowA (w5.alloc (.cells #[.int .i64 x'.a, .int .i64 x'.b, .int .i64 x'.c, .int .i64 x'.d, .int .i64 x'.e, .int .i64 x'.f, .int .i64 x'.g, .int .i64 x'.h, .int .i64 x'.r] 27)) (.cells #[.int .i64 f, .int .i64 t', .int .i64 r, .int .i64 l, .int .i64 u, .int .i64 v, .slice s m d] 35))
        replace V5 := V5.kept (belowA (w5.alloc (.cells #[.int .i64 x'.a, .int .i64 x'.b, .int .i64 x'.c, .int .i64 x'.d, .int .i64 x'.e, .int .i64 x'.f, .int .i64 x'.g, .int .i64 x'.h, .int .i64 x'.r] 27)) (.cells #[.int .i64 f, .int .i64 t', .int .i64 r, .int .i64 l, .int .i64 u, .int .i64 v, .slice s m d] 35))
        replace RP := RP.kept (belowA (w5.alloc (.cells #[.int .i64 x'.a, .int .i64 x'.b, .int .i64 x'.c, .int .i64 x'.d, .int .i64 x'.e, .int .i64 x'.f, .int .i64 x'.g, .int .i64 x'.h, .int .i64 x'.r] 27)) (.cells #[.int .i64 f, .int .i64 t', .int .i64 r, .int .i64 l, .int .i64 u, .int .i64 v, .slice s m d] 35))
        replace B := thenB B (belowA (w5.alloc (.cells #[.int .i64 x'.a, .int .i64 x'.b, .int .i64 x'.c, .int .i64 x'.d, .int .i64 x'.e, .int .i64 x'.f, .int .i64 x'.g, .int .i64 x'.h, .int .i64 x'.r] 27)) (.cells #[.int .i64 f, .int .i64 t', .int .i64 r, .int .i64 l, .int .i64 u, .int .i64 v, .slice s m d] 35))
        have V6 : V ((w5.alloc (.cells #[.int .i64 x'.a, .int .i64 x'.b, .int .i64 x'.c, .int .i64 x'.d, .int .i64 x'.e, .int .i64 x'.f, .int .i64 x'.g, .int .i64 x'.h, .int .i64 x'.r] 27)).alloc (.cells #[.int .i64 f, .int .i64 t', .int .i64 r, .int .i64 l, .int .i64 u, .int .i64 v, .slice s m d] 35)) (w5.heap.size + 1) [.int .i64 f, .int .i64 t', .int .i64 r, .int .i64 l, .int .i64 u, .int .i64 v, .slice s m d] := V.newAt _ _ _ _ (by simp)
        have CM := Hid.mk (fun w => implMeetSels_ok x y w)
        have CR := Hid.mk (fun w => implReverse_ok x w hx)
        have CV := Hid.mk (fun w h => implReverseWay_ok f t' r l u v s m d ys w h hys)
        have CRR := Hid.mk (fun w => implReverse2_ok x w hx)
        have CH := Hid.mk (fun w => implHolds_ok x f t' r l u v s m d w)
        have CHr := Hid.mk (fun s n d w => implHoldsRev_ok x f t' r l u v s n d w)
        have CHy := Hid.mk (fun w => implHolds_ok y f t' r l u v s m d w)
        go_wp2_with fail
        refine (CM.out _).mono ?_
        rintro e w6 ⟨rfl, b6⟩
        clear s_VA f_VA z_VA s_VB f_VB z_VB
        have S6 := b6.size
        simp only [World.size_alloc] at S6
        replace VA := VA.kept b6
        replace VB := VB.kept b6
        replace V5 := V5.kept b6
        replace V6 := V6.kept b6
        replace RP := RP.kept b6
        replace B := thenB B b6
        clear b6
        obtain ⟨s_VA, f_VA, z_VA⟩ := VA.open
        obtain ⟨s_VB, f_VB, z_VB⟩ := VB.open
        obtain ⟨s_V5, f_V5, z_V5⟩ := V5.open
        obtain ⟨s_V6, f_V6, z_V6⟩ := V6.open
        have Bo := B
        replace VA := VA.kept (belowA w6 (.cells #[.int .i64 (mtC x y), .int .i64 (mtS x y).a, .int .i64 (mtS x y).b, .int .i64 (mtS x y).c, .int .i64 (mtS x y).d, .int .i64 (mtS x y).e, .int .i64 (mtS x y).f, .int .i64 (mtS x y).g, .int .i64 (mtS x y).h, .int .i64 (mtS x y).r] 31))
        replace VB := VB.kept (belowA w6 (.cells #[.int .i64 (mtC x y), .int .i64 (mtS x y).a, .int .i64 (mtS x y).b, .int .i64 (mtS x y).c, .int .i64 (mtS x y).d, .int .i64 (mtS x y).e, .int .i64 (mtS x y).f, .int .i64 (mtS x y).g, .int .i64 (mtS x y).h, .int .i64 (mtS x y).r] 31))
        replace V5 := V5.kept (belowA w6 (.cells #[.int .i64 (mtC x y), .int .i64 (mtS x y).a, .int .i64 (mtS x y).b, .int .i64 (mtS x y).c, .int .i64 (mtS x y).d, .int .i64 (mtS x y).e, .int .i64 (mtS x y).f, .int .i64 (mtS x y).g, .int .i64 (mtS x y).h, .int .i64 (mtS x y).r] 31))
        replace V6 := V6.kept (belowA w6 (.cells #[.int .i64 (mtC x y), .int .i64 (mtS x y).a, .int .i64 (mtS x y).b, .int .i64 (mtS x y).c, .int .i64 (mtS x y).d, .int .i64 (mtS x y).e, .int .i64 (mtS x y).f, .int .i64 (mtS x y).g, .int .i64 (mtS x y).h, .int .i64 (mtS x y).r] 31))
        replace RP := RP.kept (belowA w6 (.cells #[.int .i64 (mtC x y), .int .i64 (mtS x y).a, .int .i64 (mtS x y).b, .int .i64 (mtS x y).c, .int .i64 (mtS x y).d, .int .i64 (mtS x y).e, .int .i64 (mtS x y).f, .int .i64 (mtS x y).g, .int .i64 (mtS x y).h, .int .i64 (mtS x y).r] 31))
        replace B := thenB B (belowA w6 (.cells #[.int .i64 (mtC x y), .int .i64 (mtS x y).a, .int .i64 (mtS x y).b, .int .i64 (mtS x y).c, .int .i64 (mtS x y).d, .int .i64 (mtS x y).e, .int .i64 (mtS x y).f, .int .i64 (mtS x y).g, .int .i64 (mtS x y).h, .int .i64 (mtS x y).r] 31))
        have V7 := V.new w6 [.int .i64 (mtC x y), .int .i64 (mtS x y).a, .int .i64 (mtS x y).b, .int .i64 (mtS x y).c, .int .i64 (mtS x y).d, .int .i64 (mtS x y).e, .int .i64 (mtS x y).f, .int .i64 (mtS x y).g, .int .i64 (mtS x y).h, .int .i64 (mtS x y).r] 31
        go_wp2_with fail
        refine (CR.out _).mono ?_
        rintro e w7 ⟨rfl, b7⟩
        clear s_VA f_VA z_VA s_VB f_VB z_VB s_V5 f_V5 z_V5 s_V6 f_V6 z_V6
        have S7 := b7.size
        simp only [World.size_alloc] at S7
        replace VA := VA.kept b7
        replace VB := VB.kept b7
        replace V5 := V5.kept b7
        replace V6 := V6.kept b7
        replace V7 := V7.kept b7
        replace RP := RP.kept b7
        replace B := thenB B b7
        clear b7
        obtain ⟨s_VA, f_VA, z_VA⟩ := VA.open
        obtain ⟨s_VB, f_VB, z_VB⟩ := VB.open
        obtain ⟨s_V5, f_V5, z_V5⟩ := V5.open
        obtain ⟨s_V6, f_V6, z_V6⟩ := V6.open
        obtain ⟨s_V7, f_V7, z_V7⟩ := V7.open
        have Bo := B
        replace VA := VA.kept (belowA w7 (.cells #[.int .i64 0, .int .i64 x.c, .int .i64 x.d, .int .i64 x.a, .int .i64 x.b, .int .i64 x.g, .int .i64 x.h, .int .i64 x.e, .int .i64 x.f, .int .i64 x.r] 31))
        replace VB := VB.kept (belowA w7 (.cells #[.int .i64 0, .int .i64 x.c, .int .i64 x.d, .int .i64 x.a, .int .i64 x.b, .int .i64 x.g, .int .i64 x.h, .int .i64 x.e, .int .i64 x.f, .int .i64 x.r] 31))
        replace V5 := V5.kept (belowA w7 (.cells #[.int .i64 0, .int .i64 x.c, .int .i64 x.d, .int .i64 x.a, .int .i64 x.b, .int .i64 x.g, .int .i64 x.h, .int .i64 x.e, .int .i64 x.f, .int .i64 x.r] 31))
        replace V6 := V6.kept (belowA w7 (.cells #[.int .i64 0, .int .i64 x.c, .int .i64 x.d, .int .i64 x.a, .int .i64 x.b, .int .i64 x.g, .int .i64 x.h, .int .i64 x.e, .int .i64 x.f, .int .i64 x.r] 31))
        replace V7 := V7.kept (belowA w7 (.cells #[.int .i64 0, .int .i64 x.c, .int .i64 x.d, .int .i64 x.a, .int .i64 x.b, .int .i64 x.g, .int .i64 x.h, .int .i64 x.e, .int .i64 x.f, .int .i64 x.r] 31))
        replace RP := RP.kept (belowA w7 (.cells #[.int .i64 0, .int .i64 x.c, .int .i64 x.d, .int .i64 x.a, .int .i64 x.b, .int .i64 x.g, .int .i64 x.h, .int .i64 x.e, .int .i64 x.f, .int .i64 x.r] 31))
        replace B := thenB B (belowA w7 (.cells #[.int .i64 0, .int .i64 x.c, .int .i64 x.d, .int .i64 x.a, .int .i64 x.b, .int .i64 x.g, .int .i64 x.h, .int .i64 x.e, .int .i64 x.f, .int .i64 x.r] 31))
        have V8 := V.new w7 [.int .i64 0, .int .i64 x.c, .int .i64 x.d, .int .i64 x.a, .int .i64 x.b, .int .i64 x.g, .int .i64 x.h, .int .i64 x.e, .int .i64 x.f, .int .i64 x.r] 31
        have qf := fieldSel
        have qn := neqSelSelf x
        by_cases hp : pfC f t' r l u v m = 0
        · skip
          rw [hp] at CV
          simp only [z0_0, zl_0] at CV
          rw [hys] at CV
          have hk : (hoP x f t' r l u v m != hoP x f t' r l u v m) = false := by simp
          go_wp2_with fail
          refine (CV.out _ RP).mono ?_
          rintro e w8 ⟨c7, d7, rfl, o7, b8⟩
          clear s_VA f_VA z_VA s_VB f_VB z_VB s_V5 f_V5 z_V5 s_V6 f_V6 z_V6 s_V7 f_V7 z_V7
          have S8 := b8.size
          simp only [World.size_alloc] at S8
          replace VA := VA.kept b8
          replace VB := VB.kept b8
          replace V5 := V5.kept b8
          replace V6 := V6.kept b8
          replace V7 := V7.kept b8
          replace V8 := V8.kept b8
          replace RP := RP.kept b8
          replace B := thenB B b8
          clear b8
          obtain ⟨s_VA, f_VA, z_VA⟩ := VA.open
          obtain ⟨s_VB, f_VB, z_VB⟩ := VB.open
          obtain ⟨s_V5, f_V5, z_V5⟩ := V5.open
          obtain ⟨s_V6, f_V6, z_V6⟩ := V6.open
          obtain ⟨s_V7, f_V7, z_V7⟩ := V7.open
          obtain ⟨s_V8, f_V8, z_V8⟩ := V8.open
          have Bo := B
          replace VA := VA.kept (belowA w8 (.cells #[.int .i64 0, .int .i64 t', .int .i64 f, .int .i64 r, .int .i64 l, .int .i64 v, .int .i64 u, .slice c7 m d7] 39))
          replace VB := VB.kept (belowA w8 (.cells #[.int .i64 0, .int .i64 t', .int .i64 f, .int .i64 r, .int .i64 l, .int .i64 v, .int .i64 u, .slice c7 m d7] 39))
          replace V5 := V5.kept (belowA w8 (.cells #[.int .i64 0, .int .i64 t', .int .i64 f, .int .i64 r, .int .i64 l, .int .i64 v, .int .i64 u, .slice c7 m d7] 39))
          replace V6 := V6.kept (belowA w8 (.cells #[.int .i64 0, .int .i64 t', .int .i64 f, .int .i64 r, .int .i64 l, .int .i64 v, .int .i64 u, .slice c7 m d7] 39))
          replace V7 := V7.kept (belowA w8 (.cells #[.int .i64 0, .int .i64 t', .int .i64 f, .int .i64 r, .int .i64 l, .int .i64 v, .int .i64 u, .slice c7 m d7] 39))
          replace V8 := V8.kept (belowA w8 (.cells #[.int .i64 0, .int .i64 t', .int .i64 f, .int .i64 r, .int .i64 l, .int .i64 v, .int .i64 u, .slice c7 m d7] 39))
          replace RP := RP.kept (belowA w8 (.cells #[.int .i64 0, .int .i64 t', .int .i64 f, .int .i64 r, .int .i64 l, .int .i64 v, .int .i64 u, .slice c7 m d7] 39))
          replace o7 := o7.kept (belowA w8 (.cells #[.int .i64 0, .int .i64 t', .int .i64 f, .int .i64 r, .int .i64 l, .int .i64 v, .int .i64 u, .slice c7 m d7] 39))
          replace B := thenB B (belowA w8 (.cells #[.int .i64 0, .int .i64 t', .int .i64 f, .int .i64 r, .int .i64 l, .int .i64 v, .int .i64 u, .slice c7 m d7] 39))
          have V9 := V.new w8 [.int .i64 0, .int .i64 t', .int .i64 f, .int .i64 r, .int .i64 l, .int .i64 v, .int .i64 u, .slice c7 m d7] 39
          clear s_VA f_VA z_VA s_VB f_VB z_VB s_V5 f_V5 z_V5 s_V6 f_V6 z_V6 s_V7 f_V7 z_V7 s_V8 f_V8 z_V8
          have K : ∀ w' : World, Below (w8.alloc (.cells #[.int .i64 0, .int .i64 t', .int .i64 f, .int .i64 r, .int .i64 l, .int .i64 v, .int .i64 u, .slice c7 m d7] 39)).heap.size (w8.alloc (.cells #[.int .i64 0, .int .i64 t', .int .i64 f, .int .i64 r, .int .i64 l, .int .i64 v, .int .i64 u, .slice c7 m d7] 39)) w' → (w'.cell? ⟨w8.heap.size, 0, none⟩ = some (.int .i64 0) ∧ w'.cell? ⟨w8.heap.size, 1, none⟩ = some (.int .i64 t') ∧ w'.cell? ⟨w8.heap.size, 2, none⟩ = some (.int .i64 f) ∧ w'.cell? ⟨w8.heap.size, 3, none⟩ = some (.int .i64 r) ∧ w'.cell? ⟨w8.heap.size, 4, none⟩ = some (.int .i64 l) ∧ w'.cell? ⟨w8.heap.size, 5, none⟩ = some (.int .i64 v) ∧ w'.cell? ⟨w8.heap.size, 6, none⟩ = some (.int .i64 u) ∧ w'.cell? ⟨w8.heap.size, 7, none⟩ = some (.slice c7 m d7) ∧ w'.cell? ⟨w1.heap.size, 0, none⟩ = some (.int .i64 x.a) ∧ w'.cell? ⟨w1.heap.size, 1, none⟩ = some (.int .i64 x.b) ∧ w'.cell? ⟨w1.heap.size, 2, none⟩ = some (.int .i64 x.c) ∧ w'.cell? ⟨w1.heap.size, 3, none⟩ = some (.int .i64 x.d) ∧ w'.cell? ⟨w1.heap.size, 4, none⟩ = some (.int .i64 x.e) ∧ w'.cell? ⟨w1.heap.size, 5, none⟩ = some (.int .i64 x.f) ∧ w'.cell? ⟨w1.heap.size, 6, none⟩ = some (.int .i64 x.g) ∧ w'.cell? ⟨w1.heap.size, 7, none⟩ = some (.int .i64 x.h) ∧ w'.cell? ⟨w1.heap.size, 8, none⟩ = some (.int .i64 x.r) ∧ w'.cell? ⟨w5.heap.size + 1, 0, none⟩ = some (.int .i64 f) ∧ w'.cell? ⟨w5.heap.size + 1, 1, none⟩ = some (.int .i64 t') ∧ w'.cell? ⟨w5.heap.size + 1, 2, none⟩ = some (.int .i64 r) ∧ w'.cell? ⟨w5.heap.size + 1, 3, none⟩ = some (.int .i64 l) ∧ w'.cell? ⟨w5.heap.size + 1, 4, none⟩ = some (.int .i64 u) ∧ w'.cell? ⟨w5.heap.size + 1, 5, none⟩ = some (.int .i64 v) ∧ w'.cell? ⟨w5.heap.size + 1, 6, none⟩ = some (.slice s m d) ∧ w'.cell? ⟨w7.heap.size, 0, none⟩ = some (.int .i64 0) ∧ w'.cell? ⟨w7.heap.size, 1, none⟩ = some (.int .i64 x.c) ∧ w'.cell? ⟨w7.heap.size, 2, none⟩ = some (.int .i64 x.d) ∧ w'.cell? ⟨w7.heap.size, 3, none⟩ = some (.int .i64 x.a) ∧ w'.cell? ⟨w7.heap.size, 4, none⟩ = some (.int .i64 x.b) ∧ w'.cell? ⟨w7.heap.size, 5, none⟩ = some (.int .i64 x.g) ∧ w'.cell? ⟨w7.heap.size, 6, none⟩ = some (.int .i64 x.h) ∧ w'.cell? ⟨w7.heap.size, 7, none⟩ = some (.int .i64 x.e) ∧ w'.cell? ⟨w7.heap.size, 8, none⟩ = some (.int .i64 x.f) ∧ w'.cell? ⟨w7.heap.size, 9, none⟩ = some (.int .i64 x.r)) := fun w' h => ⟨(V9.kept h).2.1 0 (by simp), (V9.kept h).2.1 1 (by simp), (V9.kept h).2.1 2 (by simp), (V9.kept h).2.1 3 (by simp), (V9.kept h).2.1 4 (by simp), (V9.kept h).2.1 5 (by simp), (V9.kept h).2.1 6 (by simp), (V9.kept h).2.1 7 (by simp), (VA.kept h).2.1 0 (by simp), (VA.kept h).2.1 1 (by simp), (VA.kept h).2.1 2 (by simp), (VA.kept h).2.1 3 (by simp), (VA.kept h).2.1 4 (by simp), (VA.kept h).2.1 5 (by simp), (VA.kept h).2.1 6 (by simp), (VA.kept h).2.1 7 (by simp), (VA.kept h).2.1 8 (by simp), (V6.kept h).2.1 0 (by simp), (V6.kept h).2.1 1 (by simp), (V6.kept h).2.1 2 (by simp), (V6.kept h).2.1 3 (by simp), (V6.kept h).2.1 4 (by simp), (V6.kept h).2.1 5 (by simp), (V6.kept h).2.1 6 (by simp), (V8.kept h).2.1 0 (by simp), (V8.kept h).2.1 1 (by simp), (V8.kept h).2.1 2 (by simp), (V8.kept h).2.1 3 (by simp), (V8.kept h).2.1 4 (by simp), (V8.kept h).2.1 5 (by simp), (V8.kept h).2.1 6 (by simp), (V8.kept h).2.1 7 (by simp), (V8.kept h).2.1 8 (by simp), (V8.kept h).2.1 9 (by simp)⟩
          have K := Hid.mk K
          go_wp2_with fail
          refine wp_region_held_drew (S := (fun w' => w'.cell? ⟨w8.heap.size, 0, none⟩ = some (.int .i64 0) ∧ w'.cell? ⟨w8.heap.size, 1, none⟩ = some (.int .i64 t') ∧ w'.cell? ⟨w8.heap.size, 2, none⟩ = some (.int .i64 f) ∧ w'.cell? ⟨w8.heap.size, 3, none⟩ = some (.int .i64 r) ∧ w'.cell? ⟨w8.heap.size, 4, none⟩ = some (.int .i64 l) ∧ w'.cell? ⟨w8.heap.size, 5, none⟩ = some (.int .i64 v) ∧ w'.cell? ⟨w8.heap.size, 6, none⟩ = some (.int .i64 u) ∧ w'.cell? ⟨w8.heap.size, 7, none⟩ = some (.slice c7 m d7) ∧ w'.cell? ⟨w1.heap.size, 0, none⟩ = some (.int .i64 x.a) ∧ w'.cell? ⟨w1.heap.size, 1, none⟩ = some (.int .i64 x.b) ∧ w'.cell? ⟨w1.heap.size, 2, none⟩ = some (.int .i64 x.c) ∧ w'.cell? ⟨w1.heap.size, 3, none⟩ = some (.int .i64 x.d) ∧ w'.cell? ⟨w1.heap.size, 4, none⟩ = some (.int .i64 x.e) ∧ w'.cell? ⟨w1.heap.size, 5, none⟩ = some (.int .i64 x.f) ∧ w'.cell? ⟨w1.heap.size, 6, none⟩ = some (.int .i64 x.g) ∧ w'.cell? ⟨w1.heap.size, 7, none⟩ = some (.int .i64 x.h) ∧ w'.cell? ⟨w1.heap.size, 8, none⟩ = some (.int .i64 x.r) ∧ w'.cell? ⟨w5.heap.size + 1, 0, none⟩ = some (.int .i64 f) ∧ w'.cell? ⟨w5.heap.size + 1, 1, none⟩ = some (.int .i64 t') ∧ w'.cell? ⟨w5.heap.size + 1, 2, none⟩ = some (.int .i64 r) ∧ w'.cell? ⟨w5.heap.size + 1, 3, none⟩ = some (.int .i64 l) ∧ w'.cell? ⟨w5.heap.size + 1, 4, none⟩ = some (.int .i64 u) ∧ w'.cell? ⟨w5.heap.size + 1, 5, none⟩ = some (.int .i64 v) ∧ w'.cell? ⟨w5.heap.size + 1, 6, none⟩ = some (.slice s m d) ∧ w'.cell? ⟨w7.heap.size, 0, none⟩ = some (.int .i64 0) ∧ w'.cell? ⟨w7.heap.size, 1, none⟩ = some (.int .i64 x.c) ∧ w'.cell? ⟨w7.heap.size, 2, none⟩ = some (.int .i64 x.d) ∧ w'.cell? ⟨w7.heap.size, 3, none⟩ = some (.int .i64 x.a) ∧ w'.cell? ⟨w7.heap.size, 4, none⟩ = some (.int .i64 x.b) ∧ w'.cell? ⟨w7.heap.size, 5, none⟩ = some (.int .i64 x.g) ∧ w'.cell? ⟨w7.heap.size, 6, none⟩ = some (.int .i64 x.h) ∧ w'.cell? ⟨w7.heap.size, 7, none⟩ = some (.int .i64 x.e) ∧ w'.cell? ⟨w7.heap.size, 8, none⟩ = some (.int .i64 x.f) ∧ w'.cell? ⟨w7.heap.size, 9, none⟩ = some (.int .i64 x.r))) (by kernel_rfl) (K.out _ (Below.refl _ _).drew) (fun hHeld => ?_)
          refine wpAnyH_take (i := 0) (oi := _) (v := ?vz1u1) rfl (by kernel_rfl) (by kernel_rfl) (by kernel_rfl) (fun _ _ _ h => h) (Or.inl ⟨by rfl, ?hyz1u1⟩) hHeld ?restz1u1
          case hyz1u1 => (intro w hSw; (try dsimp only at hSw); go_simp; first | done | with_reducible rfl)
          try simp only [Act.put, List.getElem_toArray, List.getElem_cons_zero, List.setIfInBounds_toArray, List.set_cons_zero, List.set_cons_succ]
          refine wpAnyH_take (i := 1) (oi := _) (v := ?vz1u2) rfl (by kernel_rfl) (by kernel_rfl) (by kernel_rfl) (fun _ _ _ h => h) (Or.inl ⟨by rfl, ?hyz1u2⟩) hHeld ?restz1u2
          case hyz1u2 => (intro w hSw; (try dsimp only at hSw); go_simp; first | done | with_reducible rfl)
          try simp only [Act.put, List.getElem_toArray, List.getElem_cons_zero, List.getElem_cons_succ, List.setIfInBounds_toArray, List.set_cons_zero, List.set_cons_succ]
          refine wpAnyH_take (i := 2) (oi := _) (v := ?vz1u3) rfl (by kernel_rfl) (by kernel_rfl) (by kernel_rfl) (fun _ _ _ h => h) (Or.inl ⟨by rfl, ?hyz1u3⟩) hHeld ?restz1u3
          case hyz1u3 => (intro w hSw; (try dsimp only at hSw); go_simp; first | done | with_reducible rfl)
          try simp only [Act.put, List.getElem_toArray, List.getElem_cons_zero, List.getElem_cons_succ, List.setIfInBounds_toArray, List.set_cons_zero, List.set_cons_succ]
          refine wpAnyH_take (i := 3) (oi := _) (v := ?vz1u4) rfl (by kernel_rfl) (by kernel_rfl) (by kernel_rfl) (fun _ _ _ h => h) (Or.inl ⟨by rfl, ?hyz1u4⟩) hHeld ?restz1u4
          case hyz1u4 => (intro w hSw; (try dsimp only at hSw); go_simp; first | done | with_reducible rfl)
          try simp only [Act.put, List.getElem_toArray, List.getElem_cons_zero, List.getElem_cons_succ, List.setIfInBounds_toArray, List.set_cons_zero, List.set_cons_succ]
          refine wpAnyH_take (i := 4) (oi := _) (v := ?vz1u5) rfl (by kernel_rfl) (by kernel_rfl) (by kernel_rfl) (fun _ _ _ h => h) (Or.inl ⟨by rfl, ?hyz1u5⟩) hHeld ?restz1u5
          case hyz1u5 => (intro w hSw; (try dsimp only at hSw); go_simp; first | done | with_reducible rfl)
          try simp only [Act.put, List.getElem_toArray, List.getElem_cons_zero, List.getElem_cons_succ, List.setIfInBounds_toArray, List.set_cons_zero, List.set_cons_succ]
          refine wpAnyH_take (i := 5) (oi := _) (v := ?vz1u6) rfl (by kernel_rfl) (by kernel_rfl) (by kernel_rfl) (fun _ _ _ h => h) (Or.inl ⟨by rfl, ?hyz1u6⟩) hHeld ?restz1u6
          case hyz1u6 => (intro w hSw; (try dsimp only at hSw); go_simp; first | done | with_reducible rfl)
          try simp only [Act.put, List.getElem_toArray, List.getElem_cons_zero, List.getElem_cons_succ, List.setIfInBounds_toArray, List.set_cons_zero, List.set_cons_succ]
          refine wpAnyH_take (i := 7) (oi := _) (v := ?vz1u7) rfl (by kernel_rfl) (by kernel_rfl) (by kernel_rfl) (fun _ _ _ h => h) (Or.inl ⟨by rfl, ?hyz1u7⟩) hHeld ?restz1u7
          case hyz1u7 => (intro w hSw; (try dsimp only at hSw); go_simp; first | done | with_reducible rfl)
          try simp only [Act.put, List.getElem_toArray, List.getElem_cons_zero, List.getElem_cons_succ, List.setIfInBounds_toArray, List.set_cons_zero, List.set_cons_succ]
          refine wpAnyH_take (i := 8) (oi := _) (v := ?vz1u8) rfl (by kernel_rfl) (by kernel_rfl) (by kernel_rfl) (fun _ _ _ h => h) (Or.inl ⟨by rfl, ?hyz1u8⟩) hHeld ?restz1u8
          case hyz1u8 => (intro w hSw; (try dsimp only at hSw); go_simp; first | done | with_reducible rfl)
          try simp only [Act.put, List.getElem_toArray, List.getElem_cons_zero, List.getElem_cons_succ, List.setIfInBounds_toArray, List.set_cons_zero, List.set_cons_succ]
          refine wpAnyH_take (i := 9) (oi := _) (v := ?vz1u9) rfl (by kernel_rfl) (by kernel_rfl) (by kernel_rfl) (fun _ _ _ h => h) (Or.inl ⟨by rfl, ?hyz1u9⟩) hHeld ?restz1u9
          case hyz1u9 => (intro w hSw; (try dsimp only at hSw); go_simp; first | done | with_reducible rfl)
          try simp only [Act.put, List.getElem_toArray, List.getElem_cons_zero, List.getElem_cons_succ, List.setIfInBounds_toArray, List.set_cons_zero, List.set_cons_succ]
          refine wpAnyH_take (i := 10) (oi := _) (v := ?vz1u10) rfl (by kernel_rfl) (by kernel_rfl) (by kernel_rfl) (fun _ _ _ h => h) (Or.inl ⟨by rfl, ?hyz1u10⟩) hHeld ?restz1u10
          case hyz1u10 => (intro w hSw; (try dsimp only at hSw); go_simp; first | done | with_reducible rfl)
          try simp only [Act.put, List.getElem_toArray, List.getElem_cons_zero, List.getElem_cons_succ, List.setIfInBounds_toArray, List.set_cons_zero, List.set_cons_succ]
          refine wpAnyH_ready (rs := [6]) (by kernel_rfl) (by simp) ?_
          refine AllReadyH.cons (o := _) rfl (fun K0 hK0 => ?_) AllReadyH.nil
          go_simp
          go_at_call 17
          refine (CH.out _).mono ?_
          rintro e wz1v11 ⟨rfl, bz1v11⟩
          refine hK0.out _ _ (K.out _ (thenB (Below.refl _ _).drew bz1v11)) (fun hHeld => ?_)
          clear hK0 K0
          try simp only [Act.put, List.getElem_toArray, List.getElem_cons_zero, List.getElem_cons_succ, List.setIfInBounds_toArray, List.set_cons_zero, List.set_cons_succ]
          refine wpAnyH_ready (rs := [11]) (by kernel_rfl) (by simp) ?_
          refine AllReadyH.cons (o := _) rfl (fun K0 hK0 => ?_) AllReadyH.nil
          go_simp
          go_at_call 17
          refine (CHr.out _ _ _ _).mono ?_
          rintro e wz1v12 ⟨rfl, bz1v12⟩
          refine hK0.out _ _ (K.out _ (thenB (thenB (Below.refl _ _).drew bz1v11) bz1v12)) (fun hHeld => ?_)
          clear hK0 K0
          try simp only [Act.put, List.getElem_toArray, List.getElem_cons_zero, List.getElem_cons_succ, List.setIfInBounds_toArray, List.set_cons_zero, List.set_cons_succ]
          refine wpAnyH_take (i := 12) (oi := _) (v := ?vz1u13) rfl (by kernel_rfl) (by kernel_rfl) (by kernel_rfl) (fun _ _ _ h => h) (Or.inl ⟨by rfl, ?hyz1u13⟩) hHeld ?restz1u13
          case hyz1u13 => (intro w hSw; (try dsimp only at hSw); go_simp; first | done | with_reducible rfl)
          try simp only [Act.put, List.getElem_toArray, List.getElem_cons_zero, List.getElem_cons_succ, List.setIfInBounds_toArray, List.set_cons_zero, List.set_cons_succ]
          refine wpAnyH_take (i := 13) (oi := _) (v := ?vz1u14) rfl (by kernel_rfl) (by kernel_rfl) (by kernel_rfl) (fun _ _ _ h => h) (Or.inl ⟨by rfl, ?hyz1u14⟩) hHeld ?restz1u14
          case hyz1u14 => (intro w hSw; (try dsimp only at hSw); go_simp; first | done | with_reducible rfl)
          try simp only [Act.put, List.getElem_toArray, List.getElem_cons_zero, List.getElem_cons_succ, List.setIfInBounds_toArray, List.set_cons_zero, List.set_cons_succ]
          refine wpAnyH_take (i := 14) (oi := _) (v := ?vz1u15) rfl (by kernel_rfl) (by kernel_rfl) (by kernel_rfl) (fun _ _ _ h => h) (Or.inl ⟨by rfl, ?hyz1u15⟩) hHeld ?restz1u15
          case hyz1u15 => (intro w hSw; (try dsimp only at hSw); go_simp; first | done | with_reducible rfl)
          try simp only [Act.put, List.getElem_toArray, List.getElem_cons_zero, List.getElem_cons_succ, List.setIfInBounds_toArray, List.set_cons_zero, List.set_cons_succ]
          refine wpAnyH_take (i := 15) (oi := _) (v := ?vz1u16) rfl (by kernel_rfl) (by kernel_rfl) (by kernel_rfl) (fun _ _ _ h => h) (Or.inl ⟨by rfl, ?hyz1u16⟩) hHeld ?restz1u16
          case hyz1u16 => (intro w hSw; (try dsimp only at hSw); go_simp; first | done | with_reducible rfl)
          try simp only [Act.put, List.getElem_toArray, List.getElem_cons_zero, List.getElem_cons_succ, List.setIfInBounds_toArray, List.set_cons_zero, List.set_cons_succ]
          refine wpAnyH_take (i := 16) (oi := _) (v := ?vz1u17) rfl (by kernel_rfl) (by kernel_rfl) (by kernel_rfl) (fun _ _ _ h => h) (Or.inl ⟨by rfl, ?hyz1u17⟩) hHeld ?restz1u17
          case hyz1u17 => (intro w hSw; (try dsimp only at hSw); go_simp; first | done | with_reducible rfl)
          try simp only [Act.put, List.getElem_toArray, List.getElem_cons_zero, List.getElem_cons_succ, List.setIfInBounds_toArray, List.set_cons_zero, List.set_cons_succ]
          refine wpAnyH_take (i := 19) (oi := _) (v := ?vz1u18) rfl (by kernel_rfl) (by kernel_rfl) (by kernel_rfl) (fun _ _ _ h => h) (Or.inl ⟨by rfl, ?hyz1u18⟩) hHeld ?restz1u18
          case hyz1u18 => (intro w hSw; (try dsimp only at hSw); go_simp; first | done | with_reducible rfl)
          try simp only [Act.put, List.getElem_toArray, List.getElem_cons_zero, List.getElem_cons_succ, List.setIfInBounds_toArray, List.set_cons_zero, List.set_cons_succ]
          refine wpAnyH_ready (rs := [17]) (by kernel_rfl) (by simp) ?_
          refine AllReadyH.cons (o := _) rfl (fun K0 hK0 => ?_) AllReadyH.nil
          go_simp
          go_at_call 20
          refine (CRR.out _).mono ?_
          rintro e wz1v19 ⟨rfl, bz1v19⟩
          refine hK0.out _ _ (K.out _ (thenB (thenB (thenB (Below.refl _ _).drew bz1v11) bz1v12) bz1v19)) (fun hHeld => ?_)
          clear hK0 K0
          try simp only [Act.put, List.getElem_toArray, List.getElem_cons_zero, List.getElem_cons_succ, List.setIfInBounds_toArray, List.set_cons_zero, List.set_cons_succ]
          refine wpAnyH_take (i := 18) (oi := _) (v := ?vz1u20) rfl (by kernel_rfl) (by kernel_rfl) (by kernel_rfl) (fun _ _ _ h => h) (Or.inl ⟨by rfl, ?hyz1u20⟩) hHeld ?restz1u20
          case hyz1u20 => (intro w hSw; (try dsimp only at hSw); go_simp; first | done | with_reducible rfl)
          try simp only [Act.put, List.getElem_toArray, List.getElem_cons_zero, List.getElem_cons_succ, List.setIfInBounds_toArray, List.set_cons_zero, List.set_cons_succ]
          refine wpAnyH_take (i := 20) (oi := _) (v := ?vz1u21) rfl (by kernel_rfl) (by kernel_rfl) (by kernel_rfl) (fun _ _ _ h => h) (Or.inl ⟨by rfl, ?hyz1u21⟩) hHeld ?restz1u21
          case hyz1u21 => (intro w hSw; (try dsimp only at hSw); go_simp; first | done | with_reducible rfl)
          try simp only [Act.put, List.getElem_toArray, List.getElem_cons_zero, List.getElem_cons_succ, List.setIfInBounds_toArray, List.set_cons_zero, List.set_cons_succ]
          refine wpAnyH_take (i := 21) (oi := _) (v := ?vz1u22) rfl (by kernel_rfl) (by kernel_rfl) (by kernel_rfl) (fun _ _ _ h => h) (Or.inl ⟨by rfl, ?hyz1u22⟩) hHeld ?restz1u22
          case hyz1u22 => (intro w hSw; (try dsimp only at hSw); go_simp; first | done | with_reducible rfl)
          try simp only [Act.put, List.getElem_toArray, List.getElem_cons_zero, List.getElem_cons_succ, List.setIfInBounds_toArray, List.set_cons_zero, List.set_cons_succ]
          refine wpAnyH_done (by kernel_rfl) ?_ _
          clear K hHeld
          replace VA := VA.kept (thenB (thenB (thenB (Below.refl _ _).drew bz1v11) bz1v12) bz1v19)
          replace VB := VB.kept (thenB (thenB (thenB (Below.refl _ _).drew bz1v11) bz1v12) bz1v19)
          replace V5 := V5.kept (thenB (thenB (thenB (Below.refl _ _).drew bz1v11) bz1v12) bz1v19)
          replace V6 := V6.kept (thenB (thenB (thenB (Below.refl _ _).drew bz1v11) bz1v12) bz1v19)
          replace V7 := V7.kept (thenB (thenB (thenB (Below.refl _ _).drew bz1v11) bz1v12) bz1v19)
          replace V8 := V8.kept (thenB (thenB (thenB (Below.refl _ _).drew bz1v11) bz1v12) bz1v19)
          replace V9 := V9.kept (thenB (thenB (thenB (Below.refl _ _).drew bz1v11) bz1v12) bz1v19)
          replace RP := RP.kept (thenB (thenB (thenB (Below.refl _ _).drew bz1v11) bz1v12) bz1v19)
          replace o7 := o7.kept (thenB (thenB (thenB (Below.refl _ _).drew bz1v11) bz1v12) bz1v19)
          replace B := thenB B (thenB (thenB (thenB (Below.refl _ _).drew bz1v11) bz1v12) bz1v19)
          have Sz1 := ((thenB (thenB (thenB (Below.refl _ _).drew bz1v11) bz1v12) bz1v19)).size
          simp only [World.size_alloc] at Sz1
          clear bz1v11 bz1v12 bz1v19
          obtain ⟨s_VA, f_VA, z_VA⟩ := VA.open
          obtain ⟨s_VB, f_VB, z_VB⟩ := VB.open
          obtain ⟨s_V5, f_V5, z_V5⟩ := V5.open
          obtain ⟨s_V6, f_V6, z_V6⟩ := V6.open
          obtain ⟨s_V7, f_V7, z_V7⟩ := V7.open
          obtain ⟨s_V8, f_V8, z_V8⟩ := V8.open
          obtain ⟨s_V9, f_V9, z_V9⟩ := V9.open
          have Bo := B
          by_cases hw : wiP x y = true
          · skip
            have hmt := wiP_meet hw
            have HH := wiP_holds (f := f) (t := t') (r := r) (l := l) (u := u) (v := v) (n := m) hw
            have CWm := Hid.mk (fun w => implWithinSel_ok x x w)
            rw [wiP_self hx] at CWm
            rw [hw] at CW
            clear s_VA f_VA z_VA s_VB f_VB z_VB s_V5 f_V5 z_V5 s_V6 f_V6 z_V6 s_V7 f_V7 z_V7 s_V8 f_V8 z_V8 s_V9 f_V9 z_V9
            rw [hmt.1, hmt.2] at V7
            clear hmt
            obtain ⟨s_VA, f_VA, z_VA⟩ := VA.open
            obtain ⟨s_VB, f_VB, z_VB⟩ := VB.open
            obtain ⟨s_V5, f_V5, z_V5⟩ := V5.open
            obtain ⟨s_V6, f_V6, z_V6⟩ := V6.open
            obtain ⟨s_V7, f_V7, z_V7⟩ := V7.open
            obtain ⟨s_V8, f_V8, z_V8⟩ := V8.open
            obtain ⟨s_V9, f_V9, z_V9⟩ := V9.open
            have Bo := B
            go_wp2_with fail
            refine (CW.out _).mono ?_
            rintro e w9 ⟨rfl, b9⟩
            clear s_VA f_VA z_VA s_VB f_VB z_VB s_V5 f_V5 z_V5 s_V6 f_V6 z_V6 s_V7 f_V7 z_V7 s_V8 f_V8 z_V8 s_V9 f_V9 z_V9
            have S9 := b9.size
            replace VA := VA.kept b9
            replace VB := VB.kept b9
            replace V5 := V5.kept b9
            replace V6 := V6.kept b9
            replace V7 := V7.kept b9
            replace V8 := V8.kept b9
            replace V9 := V9.kept b9
            replace RP := RP.kept b9
            replace o7 := o7.kept b9
            replace B := thenB B b9
            clear b9
            obtain ⟨s_VA, f_VA, z_VA⟩ := VA.open
            obtain ⟨s_VB, f_VB, z_VB⟩ := VB.open
            obtain ⟨s_V5, f_V5, z_V5⟩ := V5.open
            obtain ⟨s_V6, f_V6, z_V6⟩ := V6.open
            obtain ⟨s_V7, f_V7, z_V7⟩ := V7.open
            obtain ⟨s_V8, f_V8, z_V8⟩ := V8.open
            obtain ⟨s_V9, f_V9, z_V9⟩ := V9.open
            have Bo := B
            by_cases hg : hoP x f t' r l u v m = true
            · skip
              replace HH := HH hg
              rw [hg] at CH
              rw [HH] at CHy
              go_wp2_with fail
              refine (CH.out _).mono ?_
              rintro e w10 ⟨rfl, b10⟩
              clear s_VA f_VA z_VA s_VB f_VB z_VB s_V5 f_V5 z_V5 s_V6 f_V6 z_V6 s_V7 f_V7 z_V7 s_V8 f_V8 z_V8 s_V9 f_V9 z_V9
              have S10 := b10.size
              replace VA := VA.kept b10
              replace VB := VB.kept b10
              replace V5 := V5.kept b10
              replace V6 := V6.kept b10
              replace V7 := V7.kept b10
              replace V8 := V8.kept b10
              replace V9 := V9.kept b10
              replace RP := RP.kept b10
              replace o7 := o7.kept b10
              replace B := thenB B b10
              clear b10
              obtain ⟨s_VA, f_VA, z_VA⟩ := VA.open
              obtain ⟨s_VB, f_VB, z_VB⟩ := VB.open
              obtain ⟨s_V5, f_V5, z_V5⟩ := V5.open
              obtain ⟨s_V6, f_V6, z_V6⟩ := V6.open
              obtain ⟨s_V7, f_V7, z_V7⟩ := V7.open
              obtain ⟨s_V8, f_V8, z_V8⟩ := V8.open
              obtain ⟨s_V9, f_V9, z_V9⟩ := V9.open
              have Bo := B
              go_wp2_with fail
              refine (CHy.out _).mono ?_
              rintro e w11 ⟨rfl, b11⟩
              clear s_VA f_VA z_VA s_VB f_VB z_VB s_V5 f_V5 z_V5 s_V6 f_V6 z_V6 s_V7 f_V7 z_V7 s_V8 f_V8 z_V8 s_V9 f_V9 z_V9
              have S11 := b11.size
              replace VA := VA.kept b11
              replace VB := VB.kept b11
              replace V5 := V5.kept b11
              replace V6 := V6.kept b11
              replace V7 := V7.kept b11
              replace V8 := V8.kept b11
              replace V9 := V9.kept b11
              replace RP := RP.kept b11
              replace o7 := o7.kept b11
              replace B := thenB B b11
              clear b11
              obtain ⟨s_VA, f_VA, z_VA⟩ := VA.open
              obtain ⟨s_VB, f_VB, z_VB⟩ := VB.open
              obtain ⟨s_V5, f_V5, z_V5⟩ := V5.open
              obtain ⟨s_V6, f_V6, z_V6⟩ := V6.open
              obtain ⟨s_V7, f_V7, z_V7⟩ := V7.open
              obtain ⟨s_V8, f_V8, z_V8⟩ := V8.open
              obtain ⟨s_V9, f_V9, z_V9⟩ := V9.open
              have Bo := B
              go_wp2_with fail
              refine (CWm.out _).mono ?_
              rintro e w12 ⟨rfl, b12⟩
              clear s_VA f_VA z_VA s_VB f_VB z_VB s_V5 f_V5 z_V5 s_V6 f_V6 z_V6 s_V7 f_V7 z_V7 s_V8 f_V8 z_V8 s_V9 f_V9 z_V9
              have S12 := b12.size
              replace VA := VA.kept b12
              replace VB := VB.kept b12
              replace V5 := V5.kept b12
              replace V6 := V6.kept b12
              replace V7 := V7.kept b12
              replace V8 := V8.kept b12
              replace V9 := V9.kept b12
              replace RP := RP.kept b12
              replace o7 := o7.kept b12
              replace B := thenB B b12
              clear b12
              obtain ⟨s_VA, f_VA, z_VA⟩ := VA.open
              obtain ⟨s_VB, f_VB, z_VB⟩ := VB.open
              obtain ⟨s_V5, f_V5, z_V5⟩ := V5.open
              obtain ⟨s_V6, f_V6, z_V6⟩ := V6.open
              obtain ⟨s_V7, f_V7, z_V7⟩ := V7.open
              obtain ⟨s_V8, f_V8, z_V8⟩ := V8.open
              obtain ⟨s_V9, f_V9, z_V9⟩ := V9.open
              have Bo := B
              go_wp2
              go_ret
              exact ⟨rfl, Bo⟩
            · skip
              rw [Bool.not_eq_true] at hg
              rw [hg] at CH
              go_wp2_with fail
              refine (CH.out _).mono ?_
              rintro e w10 ⟨rfl, b10⟩
              clear s_VA f_VA z_VA s_VB f_VB z_VB s_V5 f_V5 z_V5 s_V6 f_V6 z_V6 s_V7 f_V7 z_V7 s_V8 f_V8 z_V8 s_V9 f_V9 z_V9
              have S10 := b10.size
              replace VA := VA.kept b10
              replace VB := VB.kept b10
              replace V5 := V5.kept b10
              replace V6 := V6.kept b10
              replace V7 := V7.kept b10
              replace V8 := V8.kept b10
              replace V9 := V9.kept b10
              replace RP := RP.kept b10
              replace o7 := o7.kept b10
              replace B := thenB B b10
              clear b10
              obtain ⟨s_VA, f_VA, z_VA⟩ := VA.open
              obtain ⟨s_VB, f_VB, z_VB⟩ := VB.open
              obtain ⟨s_V5, f_V5, z_V5⟩ := V5.open
              obtain ⟨s_V6, f_V6, z_V6⟩ := V6.open
              obtain ⟨s_V7, f_V7, z_V7⟩ := V7.open
              obtain ⟨s_V8, f_V8, z_V8⟩ := V8.open
              obtain ⟨s_V9, f_V9, z_V9⟩ := V9.open
              have Bo := B
              go_wp2_with fail
              refine (CWm.out _).mono ?_
              rintro e w11 ⟨rfl, b11⟩
              clear s_VA f_VA z_VA s_VB f_VB z_VB s_V5 f_V5 z_V5 s_V6 f_V6 z_V6 s_V7 f_V7 z_V7 s_V8 f_V8 z_V8 s_V9 f_V9 z_V9
              have S11 := b11.size
              replace VA := VA.kept b11
              replace VB := VB.kept b11
              replace V5 := V5.kept b11
              replace V6 := V6.kept b11
              replace V7 := V7.kept b11
              replace V8 := V8.kept b11
              replace V9 := V9.kept b11
              replace RP := RP.kept b11
              replace o7 := o7.kept b11
              replace B := thenB B b11
              clear b11
              obtain ⟨s_VA, f_VA, z_VA⟩ := VA.open
              obtain ⟨s_VB, f_VB, z_VB⟩ := VB.open
              obtain ⟨s_V5, f_V5, z_V5⟩ := V5.open
              obtain ⟨s_V6, f_V6, z_V6⟩ := V6.open
              obtain ⟨s_V7, f_V7, z_V7⟩ := V7.open
              obtain ⟨s_V8, f_V8, z_V8⟩ := V8.open
              obtain ⟨s_V9, f_V9, z_V9⟩ := V9.open
              have Bo := B
              go_wp2
              go_ret
              exact ⟨rfl, Bo⟩
          · skip
            rw [Bool.not_eq_true] at hw
            have CSW := Hid.mk (fun w => specWithinSel_ok x y w)
            rw [hw] at CW CSW
            go_wp2_with fail
            refine (CW.out _).mono ?_
            rintro e w9 ⟨rfl, b9⟩
            clear s_VA f_VA z_VA s_VB f_VB z_VB s_V5 f_V5 z_V5 s_V6 f_V6 z_V6 s_V7 f_V7 z_V7 s_V8 f_V8 z_V8 s_V9 f_V9 z_V9
            have S9 := b9.size
            replace VA := VA.kept b9
            replace VB := VB.kept b9
            replace V5 := V5.kept b9
            replace V6 := V6.kept b9
            replace V7 := V7.kept b9
            replace V8 := V8.kept b9
            replace V9 := V9.kept b9
            replace RP := RP.kept b9
            replace o7 := o7.kept b9
            replace B := thenB B b9
            clear b9
            obtain ⟨s_VA, f_VA, z_VA⟩ := VA.open
            obtain ⟨s_VB, f_VB, z_VB⟩ := VB.open
            obtain ⟨s_V5, f_V5, z_V5⟩ := V5.open
            obtain ⟨s_V6, f_V6, z_V6⟩ := V6.open
            obtain ⟨s_V7, f_V7, z_V7⟩ := V7.open
            obtain ⟨s_V8, f_V8, z_V8⟩ := V8.open
            obtain ⟨s_V9, f_V9, z_V9⟩ := V9.open
            have Bo := B
            go_wp2_with fail
            refine (CSW.out _).mono ?_
            rintro e w10 ⟨rfl, b10⟩
            clear s_VA f_VA z_VA s_VB f_VB z_VB s_V5 f_V5 z_V5 s_V6 f_V6 z_V6 s_V7 f_V7 z_V7 s_V8 f_V8 z_V8 s_V9 f_V9 z_V9
            have S10 := b10.size
            replace VA := VA.kept b10
            replace VB := VB.kept b10
            replace V5 := V5.kept b10
            replace V6 := V6.kept b10
            replace V7 := V7.kept b10
            replace V8 := V8.kept b10
            replace V9 := V9.kept b10
            replace RP := RP.kept b10
            replace o7 := o7.kept b10
            replace B := thenB B b10
            clear b10
            obtain ⟨s_VA, f_VA, z_VA⟩ := VA.open
            obtain ⟨s_VB, f_VB, z_VB⟩ := VB.open
            obtain ⟨s_V5, f_V5, z_V5⟩ := V5.open
            obtain ⟨s_V6, f_V6, z_V6⟩ := V6.open
            obtain ⟨s_V7, f_V7, z_V7⟩ := V7.open
            obtain ⟨s_V8, f_V8, z_V8⟩ := V8.open
            obtain ⟨s_V9, f_V9, z_V9⟩ := V9.open
            have Bo := B
            go_wp2
            go_ret
            exact ⟨rfl, Bo⟩
        · skip
          simp only [z0_1 hp, zl_1 hp, List.length_nil] at CV
          have hp1 : (pfC f t' r l u v m == 0) = false := by simp [hp]
          go_wp2_with fail
          refine (CV.out _ RP).mono ?_
          rintro e w8 ⟨c7, d7, rfl, o7, b8⟩
          clear s_VA f_VA z_VA s_VB f_VB z_VB s_V5 f_V5 z_V5 s_V6 f_V6 z_V6 s_V7 f_V7 z_V7
          have S8 := b8.size
          simp only [World.size_alloc] at S8
          replace VA := VA.kept b8
          replace VB := VB.kept b8
          replace V5 := V5.kept b8
          replace V6 := V6.kept b8
          replace V7 := V7.kept b8
          replace V8 := V8.kept b8
          replace RP := RP.kept b8
          replace B := thenB B b8
          clear b8
          obtain ⟨s_VA, f_VA, z_VA⟩ := VA.open
          obtain ⟨s_VB, f_VB, z_VB⟩ := VB.open
          obtain ⟨s_V5, f_V5, z_V5⟩ := V5.open
          obtain ⟨s_V6, f_V6, z_V6⟩ := V6.open
          obtain ⟨s_V7, f_V7, z_V7⟩ := V7.open
          obtain ⟨s_V8, f_V8, z_V8⟩ := V8.open
          have Bo := B
          replace VA := VA.kept (belowA w8 (.cells #[.int .i64 (pfC f t' r l u v m), .int .i64 0, .int .i64 0, .int .i64 0, .int .i64 0, .int .i64 0, .int .i64 0, .slice c7 0 d7] 39))
          replace VB := VB.kept (belowA w8 (.cells #[.int .i64 (pfC f t' r l u v m), .int .i64 0, .int .i64 0, .int .i64 0, .int .i64 0, .int .i64 0, .int .i64 0, .slice c7 0 d7] 39))
          replace V5 := V5.kept (belowA w8 (.cells #[.int .i64 (pfC f t' r l u v m), .int .i64 0, .int .i64 0, .int .i64 0, .int .i64 0, .int .i64 0, .int .i64 0, .slice c7 0 d7] 39))
          replace V6 := V6.kept (belowA w8 (.cells #[.int .i64 (pfC f t' r l u v m), .int .i64 0, .int .i64 0, .int .i64 0, .int .i64 0, .int .i64 0, .int .i64 0, .slice c7 0 d7] 39))
          replace V7 := V7.kept (belowA w8 (.cells #[.int .i64 (pfC f t' r l u v m), .int .i64 0, .int .i64 0, .int .i64 0, .int .i64 0, .int .i64 0, .int .i64 0, .slice c7 0 d7] 39))
          replace V8 := V8.kept (belowA w8 (.cells #[.int .i64 (pfC f t' r l u v m), .int .i64 0, .int .i64 0, .int .i64 0, .int .i64 0, .int .i64 0, .int .i64 0, .slice c7 0 d7] 39))
          replace RP := RP.kept (belowA w8 (.cells #[.int .i64 (pfC f t' r l u v m), .int .i64 0, .int .i64 0, .int .i64 0, .int .i64 0, .int .i64 0, .int .i64 0, .slice c7 0 d7] 39))
          replace o7 := o7.kept (belowA w8 (.cells #[.int .i64 (pfC f t' r l u v m), .int .i64 0, .int .i64 0, .int .i64 0, .int .i64 0, .int .i64 0, .int .i64 0, .slice c7 0 d7] 39))
          replace B := thenB B (belowA w8 (.cells #[.int .i64 (pfC f t' r l u v m), .int .i64 0, .int .i64 0, .int .i64 0, .int .i64 0, .int .i64 0, .int .i64 0, .slice c7 0 d7] 39))
          have V9 := V.new w8 [.int .i64 (pfC f t' r l u v m), .int .i64 0, .int .i64 0, .int .i64 0, .int .i64 0, .int .i64 0, .int .i64 0, .slice c7 0 d7] 39
          clear s_VA f_VA z_VA s_VB f_VB z_VB s_V5 f_V5 z_V5 s_V6 f_V6 z_V6 s_V7 f_V7 z_V7 s_V8 f_V8 z_V8
          have K : ∀ w' : World, Below (w8.alloc (.cells #[.int .i64 (pfC f t' r l u v m), .int .i64 0, .int .i64 0, .int .i64 0, .int .i64 0, .int .i64 0, .int .i64 0, .slice c7 0 d7] 39)).heap.size (w8.alloc (.cells #[.int .i64 (pfC f t' r l u v m), .int .i64 0, .int .i64 0, .int .i64 0, .int .i64 0, .int .i64 0, .int .i64 0, .slice c7 0 d7] 39)) w' → (w'.cell? ⟨w8.heap.size, 0, none⟩ = some (.int .i64 (pfC f t' r l u v m)) ∧ w'.cell? ⟨w8.heap.size, 1, none⟩ = some (.int .i64 0) ∧ w'.cell? ⟨w8.heap.size, 2, none⟩ = some (.int .i64 0) ∧ w'.cell? ⟨w8.heap.size, 3, none⟩ = some (.int .i64 0) ∧ w'.cell? ⟨w8.heap.size, 4, none⟩ = some (.int .i64 0) ∧ w'.cell? ⟨w8.heap.size, 5, none⟩ = some (.int .i64 0) ∧ w'.cell? ⟨w8.heap.size, 6, none⟩ = some (.int .i64 0) ∧ w'.cell? ⟨w8.heap.size, 7, none⟩ = some (.slice c7 0 d7) ∧ w'.cell? ⟨w1.heap.size, 0, none⟩ = some (.int .i64 x.a) ∧ w'.cell? ⟨w1.heap.size, 1, none⟩ = some (.int .i64 x.b) ∧ w'.cell? ⟨w1.heap.size, 2, none⟩ = some (.int .i64 x.c) ∧ w'.cell? ⟨w1.heap.size, 3, none⟩ = some (.int .i64 x.d) ∧ w'.cell? ⟨w1.heap.size, 4, none⟩ = some (.int .i64 x.e) ∧ w'.cell? ⟨w1.heap.size, 5, none⟩ = some (.int .i64 x.f) ∧ w'.cell? ⟨w1.heap.size, 6, none⟩ = some (.int .i64 x.g) ∧ w'.cell? ⟨w1.heap.size, 7, none⟩ = some (.int .i64 x.h) ∧ w'.cell? ⟨w1.heap.size, 8, none⟩ = some (.int .i64 x.r) ∧ w'.cell? ⟨w7.heap.size, 0, none⟩ = some (.int .i64 0) ∧ w'.cell? ⟨w7.heap.size, 1, none⟩ = some (.int .i64 x.c) ∧ w'.cell? ⟨w7.heap.size, 2, none⟩ = some (.int .i64 x.d) ∧ w'.cell? ⟨w7.heap.size, 3, none⟩ = some (.int .i64 x.a) ∧ w'.cell? ⟨w7.heap.size, 4, none⟩ = some (.int .i64 x.b) ∧ w'.cell? ⟨w7.heap.size, 5, none⟩ = some (.int .i64 x.g) ∧ w'.cell? ⟨w7.heap.size, 6, none⟩ = some (.int .i64 x.h) ∧ w'.cell? ⟨w7.heap.size, 7, none⟩ = some (.int .i64 x.e) ∧ w'.cell? ⟨w7.heap.size, 8, none⟩ = some (.int .i64 x.f) ∧ w'.cell? ⟨w7.heap.size, 9, none⟩ = some (.int .i64 x.r)) := fun w' h => ⟨(V9.kept h).2.1 0 (by simp), (V9.kept h).2.1 1 (by simp), (V9.kept h).2.1 2 (by simp), (V9.kept h).2.1 3 (by simp), (V9.kept h).2.1 4 (by simp), (V9.kept h).2.1 5 (by simp), (V9.kept h).2.1 6 (by simp), (V9.kept h).2.1 7 (by simp), (VA.kept h).2.1 0 (by simp), (VA.kept h).2.1 1 (by simp), (VA.kept h).2.1 2 (by simp), (VA.kept h).2.1 3 (by simp), (VA.kept h).2.1 4 (by simp), (VA.kept h).2.1 5 (by simp), (VA.kept h).2.1 6 (by simp), (VA.kept h).2.1 7 (by simp), (VA.kept h).2.1 8 (by simp), (V8.kept h).2.1 0 (by simp), (V8.kept h).2.1 1 (by simp), (V8.kept h).2.1 2 (by simp), (V8.kept h).2.1 3 (by simp), (V8.kept h).2.1 4 (by simp), (V8.kept h).2.1 5 (by simp), (V8.kept h).2.1 6 (by simp), (V8.kept h).2.1 7 (by simp), (V8.kept h).2.1 8 (by simp), (V8.kept h).2.1 9 (by simp)⟩
          have K := Hid.mk K
          go_wp2_with fail
          refine wp_region_held_drew (S := (fun w' => w'.cell? ⟨w8.heap.size, 0, none⟩ = some (.int .i64 (pfC f t' r l u v m)) ∧ w'.cell? ⟨w8.heap.size, 1, none⟩ = some (.int .i64 0) ∧ w'.cell? ⟨w8.heap.size, 2, none⟩ = some (.int .i64 0) ∧ w'.cell? ⟨w8.heap.size, 3, none⟩ = some (.int .i64 0) ∧ w'.cell? ⟨w8.heap.size, 4, none⟩ = some (.int .i64 0) ∧ w'.cell? ⟨w8.heap.size, 5, none⟩ = some (.int .i64 0) ∧ w'.cell? ⟨w8.heap.size, 6, none⟩ = some (.int .i64 0) ∧ w'.cell? ⟨w8.heap.size, 7, none⟩ = some (.slice c7 0 d7) ∧ w'.cell? ⟨w1.heap.size, 0, none⟩ = some (.int .i64 x.a) ∧ w'.cell? ⟨w1.heap.size, 1, none⟩ = some (.int .i64 x.b) ∧ w'.cell? ⟨w1.heap.size, 2, none⟩ = some (.int .i64 x.c) ∧ w'.cell? ⟨w1.heap.size, 3, none⟩ = some (.int .i64 x.d) ∧ w'.cell? ⟨w1.heap.size, 4, none⟩ = some (.int .i64 x.e) ∧ w'.cell? ⟨w1.heap.size, 5, none⟩ = some (.int .i64 x.f) ∧ w'.cell? ⟨w1.heap.size, 6, none⟩ = some (.int .i64 x.g) ∧ w'.cell? ⟨w1.heap.size, 7, none⟩ = some (.int .i64 x.h) ∧ w'.cell? ⟨w1.heap.size, 8, none⟩ = some (.int .i64 x.r) ∧ w'.cell? ⟨w7.heap.size, 0, none⟩ = some (.int .i64 0) ∧ w'.cell? ⟨w7.heap.size, 1, none⟩ = some (.int .i64 x.c) ∧ w'.cell? ⟨w7.heap.size, 2, none⟩ = some (.int .i64 x.d) ∧ w'.cell? ⟨w7.heap.size, 3, none⟩ = some (.int .i64 x.a) ∧ w'.cell? ⟨w7.heap.size, 4, none⟩ = some (.int .i64 x.b) ∧ w'.cell? ⟨w7.heap.size, 5, none⟩ = some (.int .i64 x.g) ∧ w'.cell? ⟨w7.heap.size, 6, none⟩ = some (.int .i64 x.h) ∧ w'.cell? ⟨w7.heap.size, 7, none⟩ = some (.int .i64 x.e) ∧ w'.cell? ⟨w7.heap.size, 8, none⟩ = some (.int .i64 x.f) ∧ w'.cell? ⟨w7.heap.size, 9, none⟩ = some (.int .i64 x.r))) (by kernel_rfl) (K.out _ (Below.refl _ _).drew) (fun hHeld => ?_)
          refine wpAnyH_take (i := 0) (oi := _) (v := ?vz11u1) rfl (by kernel_rfl) (by kernel_rfl) (by kernel_rfl) (fun _ _ _ h => h) (Or.inl ⟨by rfl, ?hyz11u1⟩) hHeld ?restz11u1
          case hyz11u1 => (intro w hSw; (try dsimp only at hSw); go_simp; first | done | with_reducible rfl)
          try simp only [Act.put, List.getElem_toArray, List.getElem_cons_zero, List.setIfInBounds_toArray, List.set_cons_zero, List.set_cons_succ]
          refine wpAnyH_take (i := 1) (oi := _) (v := ?vz11u2) rfl (by kernel_rfl) (by kernel_rfl) (by kernel_rfl) (fun _ _ _ h => h) (Or.inl ⟨by rfl, ?hyz11u2⟩) hHeld ?restz11u2
          case hyz11u2 => (intro w hSw; (try dsimp only at hSw); go_simp; first | done | with_reducible rfl)
          try simp only [Act.put, List.getElem_toArray, List.getElem_cons_zero, List.getElem_cons_succ, List.setIfInBounds_toArray, List.set_cons_zero, List.set_cons_succ]
          refine wpAnyH_take (i := 2) (oi := _) (v := ?vz11u3) rfl (by kernel_rfl) (by kernel_rfl) (by kernel_rfl) (fun _ _ _ h => h) (Or.inl ⟨by rfl, ?hyz11u3⟩) hHeld ?restz11u3
          case hyz11u3 => (intro w hSw; (try dsimp only at hSw); go_simp; first | done | with_reducible rfl)
          try simp only [Act.put, List.getElem_toArray, List.getElem_cons_zero, List.getElem_cons_succ, List.setIfInBounds_toArray, List.set_cons_zero, List.set_cons_succ]
          refine wpAnyH_take (i := 3) (oi := _) (v := ?vz11u4) rfl (by kernel_rfl) (by kernel_rfl) (by kernel_rfl) (fun _ _ _ h => h) (Or.inl ⟨by rfl, ?hyz11u4⟩) hHeld ?restz11u4
          case hyz11u4 => (intro w hSw; (try dsimp only at hSw); go_simp; first | done | with_reducible rfl)
          try simp only [Act.put, List.getElem_toArray, List.getElem_cons_zero, List.getElem_cons_succ, List.setIfInBounds_toArray, List.set_cons_zero, List.set_cons_succ]
          refine wpAnyH_take (i := 4) (oi := _) (v := undef) rfl (by kernel_rfl) (by kernel_rfl) (by kernel_rfl) (fun _ _ _ h => h) (Or.inr ⟨by rfl, rfl⟩) hHeld ?_
          try simp only [Act.put, List.getElem_toArray, List.getElem_cons_zero, List.getElem_cons_succ, List.setIfInBounds_toArray, List.set_cons_zero, List.set_cons_succ]
          refine wpAnyH_take (i := 5) (oi := _) (v := undef) rfl (by kernel_rfl) (by kernel_rfl) (by kernel_rfl) (fun _ _ _ h => h) (Or.inr ⟨by rfl, rfl⟩) hHeld ?_
          try simp only [Act.put, List.getElem_toArray, List.getElem_cons_zero, List.getElem_cons_succ, List.setIfInBounds_toArray, List.set_cons_zero, List.set_cons_succ]
          refine wpAnyH_take (i := 6) (oi := _) (v := undef) rfl (by kernel_rfl) (by kernel_rfl) (by kernel_rfl) (fun _ _ _ h => h) (Or.inr ⟨by rfl, rfl⟩) hHeld ?_
          try simp only [Act.put, List.getElem_toArray, List.getElem_cons_zero, List.getElem_cons_succ, List.setIfInBounds_toArray, List.set_cons_zero, List.set_cons_succ]
          refine wpAnyH_take (i := 7) (oi := _) (v := undef) rfl (by kernel_rfl) (by kernel_rfl) (by kernel_rfl) (fun _ _ _ h => h) (Or.inr ⟨by rfl, rfl⟩) hHeld ?_
          try simp only [Act.put, List.getElem_toArray, List.getElem_cons_zero, List.getElem_cons_succ, List.setIfInBounds_toArray, List.set_cons_zero, List.set_cons_succ]
          refine wpAnyH_take (i := 8) (oi := _) (v := undef) rfl (by kernel_rfl) (by kernel_rfl) (by kernel_rfl) (fun _ _ _ h => h) (Or.inr ⟨by rfl, rfl⟩) hHeld ?_
          try simp only [Act.put, List.getElem_toArray, List.getElem_cons_zero, List.getElem_cons_succ, List.setIfInBounds_toArray, List.set_cons_zero, List.set_cons_succ]
          refine wpAnyH_take (i := 9) (oi := _) (v := undef) rfl (by kernel_rfl) (by kernel_rfl) (by kernel_rfl) (fun _ _ _ h => h) (Or.inr ⟨by rfl, rfl⟩) hHeld ?_
          try simp only [Act.put, List.getElem_toArray, List.getElem_cons_zero, List.getElem_cons_succ, List.setIfInBounds_toArray, List.set_cons_zero, List.set_cons_succ]
          refine wpAnyH_take (i := 10) (oi := _) (v := undef) rfl (by kernel_rfl) (by kernel_rfl) (by kernel_rfl) (fun _ _ _ h => h) (Or.inr ⟨by rfl, rfl⟩) hHeld ?_
          try simp only [Act.put, List.getElem_toArray, List.getElem_cons_zero, List.getElem_cons_succ, List.setIfInBounds_toArray, List.set_cons_zero, List.set_cons_succ]
          refine wpAnyH_take (i := 11) (oi := _) (v := undef) rfl (by kernel_rfl) (by kernel_rfl) (by kernel_rfl) (fun _ _ _ h => h) (Or.inr ⟨by rfl, rfl⟩) hHeld ?_
          try simp only [Act.put, List.getElem_toArray, List.getElem_cons_zero, List.getElem_cons_succ, List.setIfInBounds_toArray, List.set_cons_zero, List.set_cons_succ]
          refine wpAnyH_take (i := 12) (oi := _) (v := undef) rfl (by kernel_rfl) (by kernel_rfl) (by kernel_rfl) (fun _ _ _ h => h) (Or.inr ⟨by rfl, rfl⟩) hHeld ?_
          try simp only [Act.put, List.getElem_toArray, List.getElem_cons_zero, List.getElem_cons_succ, List.setIfInBounds_toArray, List.set_cons_zero, List.set_cons_succ]
          refine wpAnyH_take (i := 13) (oi := _) (v := ?vz11u5) rfl (by kernel_rfl) (by kernel_rfl) (by kernel_rfl) (fun _ _ _ h => h) (Or.inl ⟨by rfl, ?hyz11u5⟩) hHeld ?restz11u5
          case hyz11u5 => (intro w hSw; (try dsimp only at hSw); go_simp; first | done | with_reducible rfl)
          try simp only [Act.put, List.getElem_toArray, List.getElem_cons_zero, List.getElem_cons_succ, List.setIfInBounds_toArray, List.set_cons_zero, List.set_cons_succ]
          refine wpAnyH_take (i := 14) (oi := _) (v := ?vz11u6) rfl (by kernel_rfl) (by kernel_rfl) (by kernel_rfl) (fun _ _ _ h => h) (Or.inl ⟨by rfl, ?hyz11u6⟩) hHeld ?restz11u6
          case hyz11u6 => (intro w hSw; (try dsimp only at hSw); go_simp; first | done | with_reducible rfl)
          try simp only [Act.put, List.getElem_toArray, List.getElem_cons_zero, List.getElem_cons_succ, List.setIfInBounds_toArray, List.set_cons_zero, List.set_cons_succ]
          refine wpAnyH_take (i := 15) (oi := _) (v := ?vz11u7) rfl (by kernel_rfl) (by kernel_rfl) (by kernel_rfl) (fun _ _ _ h => h) (Or.inl ⟨by rfl, ?hyz11u7⟩) hHeld ?restz11u7
          case hyz11u7 => (intro w hSw; (try dsimp only at hSw); go_simp; first | done | with_reducible rfl)
          try simp only [Act.put, List.getElem_toArray, List.getElem_cons_zero, List.getElem_cons_succ, List.setIfInBounds_toArray, List.set_cons_zero, List.set_cons_succ]
          refine wpAnyH_take (i := 16) (oi := _) (v := ?vz11u8) rfl (by kernel_rfl) (by kernel_rfl) (by kernel_rfl) (fun _ _ _ h => h) (Or.inl ⟨by rfl, ?hyz11u8⟩) hHeld ?restz11u8
          case hyz11u8 => (intro w hSw; (try dsimp only at hSw); go_simp; first | done | with_reducible rfl)
          try simp only [Act.put, List.getElem_toArray, List.getElem_cons_zero, List.getElem_cons_succ, List.setIfInBounds_toArray, List.set_cons_zero, List.set_cons_succ]
          refine wpAnyH_take (i := 19) (oi := _) (v := ?vz11u9) rfl (by kernel_rfl) (by kernel_rfl) (by kernel_rfl) (fun _ _ _ h => h) (Or.inl ⟨by rfl, ?hyz11u9⟩) hHeld ?restz11u9
          case hyz11u9 => (intro w hSw; (try dsimp only at hSw); go_simp; first | done | with_reducible rfl)
          try simp only [Act.put, List.getElem_toArray, List.getElem_cons_zero, List.getElem_cons_succ, List.setIfInBounds_toArray, List.set_cons_zero, List.set_cons_succ]
          refine wpAnyH_ready (rs := [17]) (by kernel_rfl) (by simp) ?_
          refine AllReadyH.cons (o := _) rfl (fun K0 hK0 => ?_) AllReadyH.nil
          go_simp
          go_at_call 20
          refine (CRR.out _).mono ?_
          rintro e wz11v10 ⟨rfl, bz11v10⟩
          refine hK0.out _ _ (K.out _ (thenB (Below.refl _ _).drew bz11v10)) (fun hHeld => ?_)
          clear hK0 K0
          try simp only [Act.put, List.getElem_toArray, List.getElem_cons_zero, List.getElem_cons_succ, List.setIfInBounds_toArray, List.set_cons_zero, List.set_cons_succ]
          refine wpAnyH_take (i := 18) (oi := _) (v := ?vz11u11) rfl (by kernel_rfl) (by kernel_rfl) (by kernel_rfl) (fun _ _ _ h => h) (Or.inl ⟨by rfl, ?hyz11u11⟩) hHeld ?restz11u11
          case hyz11u11 => (intro w hSw; (try dsimp only at hSw); go_simp; first | done | with_reducible rfl)
          try simp only [Act.put, List.getElem_toArray, List.getElem_cons_zero, List.getElem_cons_succ, List.setIfInBounds_toArray, List.set_cons_zero, List.set_cons_succ]
          refine wpAnyH_take (i := 20) (oi := _) (v := ?vz11u12) rfl (by kernel_rfl) (by kernel_rfl) (by kernel_rfl) (fun _ _ _ h => h) (Or.inl ⟨by rfl, ?hyz11u12⟩) hHeld ?restz11u12
          case hyz11u12 => (intro w hSw; (try dsimp only at hSw); go_simp; first | done | with_reducible rfl)
          try simp only [Act.put, List.getElem_toArray, List.getElem_cons_zero, List.getElem_cons_succ, List.setIfInBounds_toArray, List.set_cons_zero, List.set_cons_succ]
          refine wpAnyH_take (i := 21) (oi := _) (v := ?vz11u13) rfl (by kernel_rfl) (by kernel_rfl) (by kernel_rfl) (fun _ _ _ h => h) (Or.inl ⟨by rfl, ?hyz11u13⟩) hHeld ?restz11u13
          case hyz11u13 => (intro w hSw; (try dsimp only at hSw); go_simp; first | done | with_reducible rfl)
          try simp only [Act.put, List.getElem_toArray, List.getElem_cons_zero, List.getElem_cons_succ, List.setIfInBounds_toArray, List.set_cons_zero, List.set_cons_succ]
          refine wpAnyH_done (by kernel_rfl) ?_ _
          clear K hHeld
          replace VA := VA.kept (thenB (Below.refl _ _).drew bz11v10)
          replace VB := VB.kept (thenB (Below.refl _ _).drew bz11v10)
          replace V5 := V5.kept (thenB (Below.refl _ _).drew bz11v10)
          replace V6 := V6.kept (thenB (Below.refl _ _).drew bz11v10)
          replace V7 := V7.kept (thenB (Below.refl _ _).drew bz11v10)
          replace V8 := V8.kept (thenB (Below.refl _ _).drew bz11v10)
          replace V9 := V9.kept (thenB (Below.refl _ _).drew bz11v10)
          replace RP := RP.kept (thenB (Below.refl _ _).drew bz11v10)
          replace o7 := o7.kept (thenB (Below.refl _ _).drew bz11v10)
          replace B := thenB B (thenB (Below.refl _ _).drew bz11v10)
          have Sz11 := ((thenB (Below.refl _ _).drew bz11v10)).size
          simp only [World.size_alloc] at Sz11
          clear bz11v10
          obtain ⟨s_VA, f_VA, z_VA⟩ := VA.open
          obtain ⟨s_VB, f_VB, z_VB⟩ := VB.open
          obtain ⟨s_V5, f_V5, z_V5⟩ := V5.open
          obtain ⟨s_V6, f_V6, z_V6⟩ := V6.open
          obtain ⟨s_V7, f_V7, z_V7⟩ := V7.open
          obtain ⟨s_V8, f_V8, z_V8⟩ := V8.open
          obtain ⟨s_V9, f_V9, z_V9⟩ := V9.open
          have Bo := B
          by_cases hw : wiP x y = true
          · skip
            have hmt := wiP_meet hw
            have HH := wiP_holds (f := f) (t := t') (r := r) (l := l) (u := u) (v := v) (n := m) hw
            have CWm := Hid.mk (fun w => implWithinSel_ok x x w)
            rw [wiP_self hx] at CWm
            rw [hw] at CW
            clear s_VA f_VA z_VA s_VB f_VB z_VB s_V5 f_V5 z_V5 s_V6 f_V6 z_V6 s_V7 f_V7 z_V7 s_V8 f_V8 z_V8 s_V9 f_V9 z_V9
            rw [hmt.1, hmt.2] at V7
            clear hmt
            obtain ⟨s_VA, f_VA, z_VA⟩ := VA.open
            obtain ⟨s_VB, f_VB, z_VB⟩ := VB.open
            obtain ⟨s_V5, f_V5, z_V5⟩ := V5.open
            obtain ⟨s_V6, f_V6, z_V6⟩ := V6.open
            obtain ⟨s_V7, f_V7, z_V7⟩ := V7.open
            obtain ⟨s_V8, f_V8, z_V8⟩ := V8.open
            obtain ⟨s_V9, f_V9, z_V9⟩ := V9.open
            have Bo := B
            go_wp2_with fail
            refine (CW.out _).mono ?_
            rintro e w9 ⟨rfl, b9⟩
            clear s_VA f_VA z_VA s_VB f_VB z_VB s_V5 f_V5 z_V5 s_V6 f_V6 z_V6 s_V7 f_V7 z_V7 s_V8 f_V8 z_V8 s_V9 f_V9 z_V9
            have S9 := b9.size
            replace VA := VA.kept b9
            replace VB := VB.kept b9
            replace V5 := V5.kept b9
            replace V6 := V6.kept b9
            replace V7 := V7.kept b9
            replace V8 := V8.kept b9
            replace V9 := V9.kept b9
            replace RP := RP.kept b9
            replace o7 := o7.kept b9
            replace B := thenB B b9
            clear b9
            obtain ⟨s_VA, f_VA, z_VA⟩ := VA.open
            obtain ⟨s_VB, f_VB, z_VB⟩ := VB.open
            obtain ⟨s_V5, f_V5, z_V5⟩ := V5.open
            obtain ⟨s_V6, f_V6, z_V6⟩ := V6.open
            obtain ⟨s_V7, f_V7, z_V7⟩ := V7.open
            obtain ⟨s_V8, f_V8, z_V8⟩ := V8.open
            obtain ⟨s_V9, f_V9, z_V9⟩ := V9.open
            have Bo := B
            by_cases hg : hoP x f t' r l u v m = true
            · skip
              replace HH := HH hg
              rw [hg] at CH
              rw [HH] at CHy
              go_wp2_with fail
              refine (CH.out _).mono ?_
              rintro e w10 ⟨rfl, b10⟩
              clear s_VA f_VA z_VA s_VB f_VB z_VB s_V5 f_V5 z_V5 s_V6 f_V6 z_V6 s_V7 f_V7 z_V7 s_V8 f_V8 z_V8 s_V9 f_V9 z_V9
              have S10 := b10.size
              replace VA := VA.kept b10
              replace VB := VB.kept b10
              replace V5 := V5.kept b10
              replace V6 := V6.kept b10
              replace V7 := V7.kept b10
              replace V8 := V8.kept b10
              replace V9 := V9.kept b10
              replace RP := RP.kept b10
              replace o7 := o7.kept b10
              replace B := thenB B b10
              clear b10
              obtain ⟨s_VA, f_VA, z_VA⟩ := VA.open
              obtain ⟨s_VB, f_VB, z_VB⟩ := VB.open
              obtain ⟨s_V5, f_V5, z_V5⟩ := V5.open
              obtain ⟨s_V6, f_V6, z_V6⟩ := V6.open
              obtain ⟨s_V7, f_V7, z_V7⟩ := V7.open
              obtain ⟨s_V8, f_V8, z_V8⟩ := V8.open
              obtain ⟨s_V9, f_V9, z_V9⟩ := V9.open
              have Bo := B
              go_wp2_with fail
              refine (CHy.out _).mono ?_
              rintro e w11 ⟨rfl, b11⟩
              clear s_VA f_VA z_VA s_VB f_VB z_VB s_V5 f_V5 z_V5 s_V6 f_V6 z_V6 s_V7 f_V7 z_V7 s_V8 f_V8 z_V8 s_V9 f_V9 z_V9
              have S11 := b11.size
              replace VA := VA.kept b11
              replace VB := VB.kept b11
              replace V5 := V5.kept b11
              replace V6 := V6.kept b11
              replace V7 := V7.kept b11
              replace V8 := V8.kept b11
              replace V9 := V9.kept b11
              replace RP := RP.kept b11
              replace o7 := o7.kept b11
              replace B := thenB B b11
              clear b11
              obtain ⟨s_VA, f_VA, z_VA⟩ := VA.open
              obtain ⟨s_VB, f_VB, z_VB⟩ := VB.open
              obtain ⟨s_V5, f_V5, z_V5⟩ := V5.open
              obtain ⟨s_V6, f_V6, z_V6⟩ := V6.open
              obtain ⟨s_V7, f_V7, z_V7⟩ := V7.open
              obtain ⟨s_V8, f_V8, z_V8⟩ := V8.open
              obtain ⟨s_V9, f_V9, z_V9⟩ := V9.open
              have Bo := B
              go_wp2_with fail
              refine (CWm.out _).mono ?_
              rintro e w12 ⟨rfl, b12⟩
              clear s_VA f_VA z_VA s_VB f_VB z_VB s_V5 f_V5 z_V5 s_V6 f_V6 z_V6 s_V7 f_V7 z_V7 s_V8 f_V8 z_V8 s_V9 f_V9 z_V9
              have S12 := b12.size
              replace VA := VA.kept b12
              replace VB := VB.kept b12
              replace V5 := V5.kept b12
              replace V6 := V6.kept b12
              replace V7 := V7.kept b12
              replace V8 := V8.kept b12
              replace V9 := V9.kept b12
              replace RP := RP.kept b12
              replace o7 := o7.kept b12
              replace B := thenB B b12
              clear b12
              obtain ⟨s_VA, f_VA, z_VA⟩ := VA.open
              obtain ⟨s_VB, f_VB, z_VB⟩ := VB.open
              obtain ⟨s_V5, f_V5, z_V5⟩ := V5.open
              obtain ⟨s_V6, f_V6, z_V6⟩ := V6.open
              obtain ⟨s_V7, f_V7, z_V7⟩ := V7.open
              obtain ⟨s_V8, f_V8, z_V8⟩ := V8.open
              obtain ⟨s_V9, f_V9, z_V9⟩ := V9.open
              have Bo := B
              go_wp2
              go_ret
              exact ⟨rfl, Bo⟩
            · skip
              rw [Bool.not_eq_true] at hg
              rw [hg] at CH
              go_wp2_with fail
              refine (CH.out _).mono ?_
              rintro e w10 ⟨rfl, b10⟩
              clear s_VA f_VA z_VA s_VB f_VB z_VB s_V5 f_V5 z_V5 s_V6 f_V6 z_V6 s_V7 f_V7 z_V7 s_V8 f_V8 z_V8 s_V9 f_V9 z_V9
              have S10 := b10.size
              replace VA := VA.kept b10
              replace VB := VB.kept b10
              replace V5 := V5.kept b10
              replace V6 := V6.kept b10
              replace V7 := V7.kept b10
              replace V8 := V8.kept b10
              replace V9 := V9.kept b10
              replace RP := RP.kept b10
              replace o7 := o7.kept b10
              replace B := thenB B b10
              clear b10
              obtain ⟨s_VA, f_VA, z_VA⟩ := VA.open
              obtain ⟨s_VB, f_VB, z_VB⟩ := VB.open
              obtain ⟨s_V5, f_V5, z_V5⟩ := V5.open
              obtain ⟨s_V6, f_V6, z_V6⟩ := V6.open
              obtain ⟨s_V7, f_V7, z_V7⟩ := V7.open
              obtain ⟨s_V8, f_V8, z_V8⟩ := V8.open
              obtain ⟨s_V9, f_V9, z_V9⟩ := V9.open
              have Bo := B
              go_wp2_with fail
              refine (CWm.out _).mono ?_
              rintro e w11 ⟨rfl, b11⟩
              clear s_VA f_VA z_VA s_VB f_VB z_VB s_V5 f_V5 z_V5 s_V6 f_V6 z_V6 s_V7 f_V7 z_V7 s_V8 f_V8 z_V8 s_V9 f_V9 z_V9
              have S11 := b11.size
              replace VA := VA.kept b11
              replace VB := VB.kept b11
              replace V5 := V5.kept b11
              replace V6 := V6.kept b11
              replace V7 := V7.kept b11
              replace V8 := V8.kept b11
              replace V9 := V9.kept b11
              replace RP := RP.kept b11
              replace o7 := o7.kept b11
              replace B := thenB B b11
              clear b11
              obtain ⟨s_VA, f_VA, z_VA⟩ := VA.open
              obtain ⟨s_VB, f_VB, z_VB⟩ := VB.open
              obtain ⟨s_V5, f_V5, z_V5⟩ := V5.open
              obtain ⟨s_V6, f_V6, z_V6⟩ := V6.open
              obtain ⟨s_V7, f_V7, z_V7⟩ := V7.open
              obtain ⟨s_V8, f_V8, z_V8⟩ := V8.open
              obtain ⟨s_V9, f_V9, z_V9⟩ := V9.open
              have Bo := B
              go_wp2
              go_ret
              exact ⟨rfl, Bo⟩
          · skip
            rw [Bool.not_eq_true] at hw
            have CSW := Hid.mk (fun w => specWithinSel_ok x y w)
            rw [hw] at CW CSW
            go_wp2_with fail
            refine (CW.out _).mono ?_
            rintro e w9 ⟨rfl, b9⟩
            clear s_VA f_VA z_VA s_VB f_VB z_VB s_V5 f_V5 z_V5 s_V6 f_V6 z_V6 s_V7 f_V7 z_V7 s_V8 f_V8 z_V8 s_V9 f_V9 z_V9
            have S9 := b9.size
            replace VA := VA.kept b9
            replace VB := VB.kept b9
            replace V5 := V5.kept b9
            replace V6 := V6.kept b9
            replace V7 := V7.kept b9
            replace V8 := V8.kept b9
            replace V9 := V9.kept b9
            replace RP := RP.kept b9
            replace o7 := o7.kept b9
            replace B := thenB B b9
            clear b9
            obtain ⟨s_VA, f_VA, z_VA⟩ := VA.open
            obtain ⟨s_VB, f_VB, z_VB⟩ := VB.open
            obtain ⟨s_V5, f_V5, z_V5⟩ := V5.open
            obtain ⟨s_V6, f_V6, z_V6⟩ := V6.open
            obtain ⟨s_V7, f_V7, z_V7⟩ := V7.open
            obtain ⟨s_V8, f_V8, z_V8⟩ := V8.open
            obtain ⟨s_V9, f_V9, z_V9⟩ := V9.open
            have Bo := B
            go_wp2_with fail
            refine (CSW.out _).mono ?_
            rintro e w10 ⟨rfl, b10⟩
            clear s_VA f_VA z_VA s_VB f_VB z_VB s_V5 f_V5 z_V5 s_V6 f_V6 z_V6 s_V7 f_V7 z_V7 s_V8 f_V8 z_V8 s_V9 f_V9 z_V9
            have S10 := b10.size
            replace VA := VA.kept b10
            replace VB := VB.kept b10
            replace V5 := V5.kept b10
            replace V6 := V6.kept b10
            replace V7 := V7.kept b10
            replace V8 := V8.kept b10
            replace V9 := V9.kept b10
            replace RP := RP.kept b10
            replace o7 := o7.kept b10
            replace B := thenB B b10
            clear b10
            obtain ⟨s_VA, f_VA, z_VA⟩ := VA.open
            obtain ⟨s_VB, f_VB, z_VB⟩ := VB.open
            obtain ⟨s_V5, f_V5, z_V5⟩ := V5.open
            obtain ⟨s_V6, f_V6, z_V6⟩ := V6.open
            obtain ⟨s_V7, f_V7, z_V7⟩ := V7.open
            obtain ⟨s_V8, f_V8, z_V8⟩ := V8.open
            obtain ⟨s_V9, f_V9, z_V9⟩ := V9.open
            have Bo := B
            go_wp2
            go_ret
            exact ⟨rfl, Bo⟩
      · skip
        have hy1 : (sfC y != 0) = true := by simp [hy]
        have hw : wiP x y = false := by rw [← Bool.not_eq_true, wiP_iff]; rintro ⟨_, h, _⟩; exact hy h
        rw [hx] at CX
        rw [hw] at CW
        obtain ⟨s_VA, f_VA, z_VA⟩ := VA.open
        obtain ⟨s_VB, f_VB, z_VB⟩ := VB.open
        have Bo := B
        go_wp2_with fail
        refine (CX.out _).mono ?_
        rintro e w2 ⟨rfl, b2⟩
        clear s_VA f_VA z_VA s_VB f_VB z_VB
        have S2 := b2.size
        simp only [World.size_alloc] at S2
        replace VA := VA.kept b2
        replace VB := VB.kept b2
        replace R := R.kept b2
        replace B := thenB B b2
        clear b2
        obtain ⟨s_VA, f_VA, z_VA⟩ := VA.open
        obtain ⟨s_VB, f_VB, z_VB⟩ := VB.open
        have Bo := B
        go_wp2_with fail
        refine (CY.out _).mono ?_
        rintro e w3 ⟨rfl, b3⟩
        clear s_VA f_VA z_VA s_VB f_VB z_VB
        have S3 := b3.size
        replace VA := VA.kept b3
        replace VB := VB.kept b3
        replace R := R.kept b3
        replace B := thenB B b3
        clear b3
        obtain ⟨s_VA, f_VA, z_VA⟩ := VA.open
        obtain ⟨s_VB, f_VB, z_VB⟩ := VB.open
        have Bo := B
        go_wp2_with fail
        refine (CW.out _).mono ?_
        rintro e w4 ⟨rfl, b4⟩
        clear s_VA f_VA z_VA s_VB f_VB z_VB
        have S4 := b4.size
        replace VA := VA.kept b4
        replace VB := VB.kept b4
        replace R := R.kept b4
        replace B := thenB B b4
        clear b4
        obtain ⟨s_VA, f_VA, z_VA⟩ := VA.open
        obtain ⟨s_VB, f_VB, z_VB⟩ := VB.open
        have Bo := B
        go_wp2
        go_ret
        exact ⟨rfl, Bo⟩
    · skip
      have hx1 : (sfC x != 0) = true := by simp [hx]
      have hw : wiP x y = false := by rw [← Bool.not_eq_true, wiP_iff]; rintro ⟨h, _, _⟩; exact hx h
      rw [hw] at CW
      obtain ⟨s_VA, f_VA, z_VA⟩ := VA.open
      obtain ⟨s_VB, f_VB, z_VB⟩ := VB.open
      have Bo := B
      go_wp2_with fail
      refine (CX.out _).mono ?_
      rintro e w2 ⟨rfl, b2⟩
      clear s_VA f_VA z_VA s_VB f_VB z_VB
      have S2 := b2.size
      simp only [World.size_alloc] at S2
      replace VA := VA.kept b2
      replace VB := VB.kept b2
      replace R := R.kept b2
      replace B := thenB B b2
      clear b2
      obtain ⟨s_VA, f_VA, z_VA⟩ := VA.open
      obtain ⟨s_VB, f_VB, z_VB⟩ := VB.open
      have Bo := B
      go_wp2_with fail
      refine (CW.out _).mono ?_
      rintro e w3 ⟨rfl, b3⟩
      clear s_VA f_VA z_VA s_VB f_VB z_VB
      have S3 := b3.size
      replace VA := VA.kept b3
      replace VB := VB.kept b3
      replace R := R.kept b3
      replace B := thenB B b3
      clear b3
      obtain ⟨s_VA, f_VA, z_VA⟩ := VA.open
      obtain ⟨s_VB, f_VB, z_VB⟩ := VB.open
      have Bo := B
      go_wp2
      go_ret
      exact ⟨rfl, Bo⟩
  · go_enter Try.func4, Try.ntmps4
    go_wp2_with (first | (go_at_call 9; go_in) | fail)
    go_ret
    exact ⟨rfl, Below.refl _ _⟩

end Go.Proofs.Ytmbkbbephmblmaa
