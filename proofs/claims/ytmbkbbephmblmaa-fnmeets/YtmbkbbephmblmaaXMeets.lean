/- The law FnMeets: its walk. -/
import Derived.Test.YtmbkbbephmblmaaDSel4
import Derived.Test.YtmbkbbephmblmaaPur2
import Derived.Test.YtmbkbbephmblmaaMtB
import Derived.Test.YtmbkbbephmblmaaMtF
import Derived.Test.YtmbkbbephmblmaaPkL
import Derived.Test.YtmbkbbephmblmaaRow
import Derived.Test.YtmbkbbephmblmaaNewC
import Derived.Test.YtmbkbbephmblmaaSelW
namespace Go.Proofs.Ytmbkbbephmblmaa
open Go.RowKit

theorem nilCap {w : World} {a : Option Addr} {len cap : Nat} {zs : List Int}
    (h : (a = none ∧ len = 0 ∧ cap = 0 ∧ zs = []) ∨ ∃ x : Addr, a = some x ∧ len ≤ cap ∧ cap ≤ maxLen ∧ zs.length = cap ∧ (∀ i, i < zs.length → w.cell? (x.add i) = some (.int .u8 (zs.getD i 0))) ∧ ∀ n ∈ zs, (Lit.int .u8 n).wf = true) : a = none → cap = 0 := by
  intro ha
  rcases h with ⟨_, _, h3, _⟩ | ⟨x, h1, _⟩
  · exact h3
  · rw [h1] at ha; cases ha

theorem fieldCode (k : Value) (x : S9) (w : World) : (Instr.field 31 (.agg #[k, .int .i64 x.a, .int .i64 x.b, .int .i64 x.c, .int .i64 x.d, .int .i64 x.e, .int .i64 x.f, .int .i64 x.g, .int .i64 x.h, .int .i64 x.r]) 0).run Try.prog w = .ok k w := by kernel_rfl

theorem fieldPkt (k f t r l u v s : Value) (w : World) : (Instr.field 39 (.agg #[k, f, t, r, l, u, v, s]) 1).run Try.prog w = .ok (.agg #[f, t, r, l, u, v, s]) w := by kernel_rfl

theorem bytes3 {xs : List Int} (h : Bytes xs) : Bytes (3 :: xs) := by
  intro z hz
  rcases List.mem_cons.1 hz with h1 | h1
  · subst h1; omega
  · exact h z h1


set_option maxRecDepth 20000 in
set_option maxHeartbeats 16000000 in
theorem xMeets_walk (a : Option Addr) (n ca : Nat) (xs : List Int) (w : World) (hR : Rd .u8 w a xs) (hB : Bytes xs) (hn : xs.length = n) (hcn : a = none → ca = 0) :
    Calls Try.prog 3 #[.slice a n ca] w fun e w' => e = .returned (.bool true) ∧ Below w.heap.size w w' := by
  by_cases hbig : (n : Int) ≤ 1048576
  · have e0 := extractP0
    have e1 := extractP1
    go_enter Try.func3, Try.ntmps3
    go_wp2_with (first | (go_at_call 9; go_in) | fail)
    refine (drawMeetSels_ok a n ca xs _ hR hB hn (by omega)).mono ?_
    rintro e w1 ⟨x, y, rfl, B⟩
    have S0 := B.size
    have R := hR.kept B
    have CX := Hid.mk (fun w => specSelFault_ok x w)
    have CY := Hid.mk (fun w => specSelFault_ok y w)
    have CM := Hid.mk (fun w => implMeetSels_ok x y w)
    have qc := fieldCode
    replace R := R.kept (belowA w1 (.cells #[.int .i64 x.a, .int .i64 x.b, .int .i64 x.c, .int .i64 x.d, .int .i64 x.e, .int .i64 x.f, .int .i64 x.g, .int .i64 x.h, .int .i64 x.r] 27))
    replace B := thenB B (belowA w1 (.cells #[.int .i64 x.a, .int .i64 x.b, .int .i64 x.c, .int .i64 x.d, .int .i64 x.e, .int .i64 x.f, .int .i64 x.g, .int .i64 x.h, .int .i64 x.r] 27))
    have VA := V.new w1 [.int .i64 x.a, .int .i64 x.b, .int .i64 x.c, .int .i64 x.d, .int .i64 x.e, .int .i64 x.f, .int .i64 x.g, .int .i64 x.h, .int .i64 x.r] 27
    replace VA := VA.kept (belowA (w1.alloc (.cells #[.int .i64 x.a, .int .i64 x.b, .int .i64 x.c, .int .i64 x.d, .int .i64 x.e, .int .i64 x.f, .int .i64 x.g, .int .i64 x.h, .int .i64 x.r] 27)) (.cells #[.int .i64 y.a, .int .i64 y.b, .int .i64 y.c, .int .i64 y.d, .int .i64 y.e, .int .i64 y.f, .int .i64 y.g, .int .i64 y.h, .int .i64 y.r] 27))
    replace R := R.kept (belowA (w1.alloc (.cells #[.int .i64 x.a, .int .i64 x.b, .int .i64 x.c, .int .i64 x.d, .int .i64 x.e, .int .i64 x.f, .int .i64 x.g, .int .i64 x.h, .int .i64 x.r] 27)) (.cells #[.int .i64 y.a, .int .i64 y.b, .int .i64 y.c, .int .i64 y.d, .int .i64 y.e, .int .i64 y.f, .int .i64 y.g, .int .i64 y.h, .int .i64 y.r] 27))
    replace B := thenB B (belowA (w1.alloc (.cells #[.int .i64 x.a, .int .i64 x.b, .int .i64 x.c, .int .i64 x.d, .int .i64 x.e, .int .i64 x.f, .int .i64 x.g, .int .i64 x.h, .int .i64 x.r] 27)) (.cells #[.int .i64 y.a, .int .i64 y.b, .int .i64 y.c, .int .i64 y.d, .int .i64 y.e, .int .i64 y.f, .int .i64 y.g, .int .i64 y.h, .int .i64 y.r] 27))
    have VB : V ((w1.alloc (.cells #[.int .i64 x.a, .int .i64 x.b, .int .i64 x.c, .int .i64 x.d, .int .i64 x.e, .int .i64 x.f, .int .i64 x.g, .int .i64 x.h, .int .i64 x.r] 27)).alloc (.cells #[.int .i64 y.a, .int .i64 y.b, .int .i64 y.c, .int .i64 y.d, .int .i64 y.e, .int .i64 y.f, .int .i64 y.g, .int .i64 y.h, .int .i64 y.r] 27)) (w1.heap.size + 1) [.int .i64 y.a, .int .i64 y.b, .int .i64 y.c, .int .i64 y.d, .int .i64 y.e, .int .i64 y.f, .int .i64 y.g, .int .i64 y.h, .int .i64 y.r] := V.newAt _ _ _ _ (by simp)
    obtain ⟨s_VA, f_VA, z_VA⟩ := VA.open
    obtain ⟨s_VB, f_VB, z_VB⟩ := VB.open
    have Bo := B
    go_wp2_with fail
    refine (CM.out _).mono ?_
    rintro e w2 ⟨rfl, b2⟩
    clear s_VA f_VA z_VA s_VB f_VB z_VB
    have S2 := b2.size
    simp only [World.size_alloc] at S2
    replace VA := VA.kept b2
    replace VB := VB.kept b2
    replace R := R.kept b2
    replace B := thenB B b2
    clear b2
    obtain ⟨s_VA, f_VA, z_VA⟩ := VA.open
    obtain ⟨s_VB, f_VB, z_VB⟩ := VB.open
    have Bo := B
    replace VA := VA.kept (belowA w2 (.cells #[.int .i64 (mtC x y), .int .i64 (mtS x y).a, .int .i64 (mtS x y).b, .int .i64 (mtS x y).c, .int .i64 (mtS x y).d, .int .i64 (mtS x y).e, .int .i64 (mtS x y).f, .int .i64 (mtS x y).g, .int .i64 (mtS x y).h, .int .i64 (mtS x y).r] 31))
    replace VB := VB.kept (belowA w2 (.cells #[.int .i64 (mtC x y), .int .i64 (mtS x y).a, .int .i64 (mtS x y).b, .int .i64 (mtS x y).c, .int .i64 (mtS x y).d, .int .i64 (mtS x y).e, .int .i64 (mtS x y).f, .int .i64 (mtS x y).g, .int .i64 (mtS x y).h, .int .i64 (mtS x y).r] 31))
    replace R := R.kept (belowA w2 (.cells #[.int .i64 (mtC x y), .int .i64 (mtS x y).a, .int .i64 (mtS x y).b, .int .i64 (mtS x y).c, .int .i64 (mtS x y).d, .int .i64 (mtS x y).e, .int .i64 (mtS x y).f, .int .i64 (mtS x y).g, .int .i64 (mtS x y).h, .int .i64 (mtS x y).r] 31))
    replace B := thenB B (belowA w2 (.cells #[.int .i64 (mtC x y), .int .i64 (mtS x y).a, .int .i64 (mtS x y).b, .int .i64 (mtS x y).c, .int .i64 (mtS x y).d, .int .i64 (mtS x y).e, .int .i64 (mtS x y).f, .int .i64 (mtS x y).g, .int .i64 (mtS x y).h, .int .i64 (mtS x y).r] 31))
    have VM := V.new w2 [.int .i64 (mtC x y), .int .i64 (mtS x y).a, .int .i64 (mtS x y).b, .int .i64 (mtS x y).c, .int .i64 (mtS x y).d, .int .i64 (mtS x y).e, .int .i64 (mtS x y).f, .int .i64 (mtS x y).g, .int .i64 (mtS x y).h, .int .i64 (mtS x y).r] 31
    clear s_VA f_VA z_VA s_VB f_VB z_VB
    by_cases hx : sfC x = 0
    · by_cases hy : sfC y = 0
      · rw [hx] at CX
        rw [hy] at CY
        obtain ⟨s_VA, f_VA, z_VA⟩ := VA.open
        obtain ⟨s_VB, f_VB, z_VB⟩ := VB.open
        obtain ⟨s_VM, f_VM, z_VM⟩ := VM.open
        have Bo := B
        go_wp2_with fail
        refine (CX.out _).mono ?_
        rintro e w3 ⟨rfl, b3⟩
        clear s_VA f_VA z_VA s_VB f_VB z_VB s_VM f_VM z_VM
        have S3 := b3.size
        simp only [World.size_alloc] at S3
        replace VA := VA.kept b3
        replace VB := VB.kept b3
        replace VM := VM.kept b3
        replace R := R.kept b3
        replace B := thenB B b3
        clear b3
        obtain ⟨s_VA, f_VA, z_VA⟩ := VA.open
        obtain ⟨s_VB, f_VB, z_VB⟩ := VB.open
        obtain ⟨s_VM, f_VM, z_VM⟩ := VM.open
        have Bo := B
        go_wp2_with fail
        refine (CY.out _).mono ?_
        rintro e w4 ⟨rfl, b4⟩
        clear s_VA f_VA z_VA s_VB f_VB z_VB s_VM f_VM z_VM
        have S4 := b4.size
        replace VA := VA.kept b4
        replace VB := VB.kept b4
        replace VM := VM.kept b4
        replace R := R.kept b4
        replace B := thenB B b4
        clear b4
        obtain ⟨s_VA, f_VA, z_VA⟩ := VA.open
        obtain ⟨s_VB, f_VB, z_VB⟩ := VB.open
        obtain ⟨s_VM, f_VM, z_VM⟩ := VM.open
        have Bo := B
        obtain ⟨i0, hi, j0, j1, j2⟩ := info_parts Try.info_u8
        have OL : Own .u8 5 (w4.alloc (.cells #[.int .u8 3] 5)) w4.heap.size (some ⟨w4.heap.size, 0, none⟩) 1 [3] := Own.lit w4 5 [3] (by decide)
        clear s_VA f_VA z_VA s_VB f_VB z_VB s_VM f_VM z_VM
        have hB3 := B.size
        replace VA := VA.kept (belowA w4 (.cells #[.int .u8 3] 5))
        replace VB := VB.kept (belowA w4 (.cells #[.int .u8 3] 5))
        replace VM := VM.kept (belowA w4 (.cells #[.int .u8 3] 5))
        replace R := R.kept (belowA w4 (.cells #[.int .u8 3] 5))
        replace B := thenB B (belowA w4 (.cells #[.int .u8 3] 5))
        have Sv := VA.1
        have Sw := VB.1
        have Sx := VM.1
        go_wp2_with (at_builtin; go_loud (refine wpList_put _ rfl _ _ 22 rfl w4.heap.size 5 i0 Try.underlying22 hi j0 j1 j2 _ _ 1 [3] rfl OL rfl _ _ _ xs rfl R hn hcn (1 + n) (3 :: xs) rfl rfl (by omega) (by simp) ?_))
        intro c4 d4 w4 O4 b4
        have hb4 := b4.size
        simp only [World.size_alloc] at hb4 Sv Sw Sx
        replace VA := VA.keptB (by omega) b4
        replace VB := VB.keptB (by omega) b4
        replace VM := VM.keptB (by omega) b4
        replace B := B.trans (b4.mono hB3)
        clear R OL b4
        obtain ⟨s_VA, f_VA, z_VA⟩ := VA.open
        obtain ⟨s_VB, f_VB, z_VB⟩ := VB.open
        obtain ⟨s_VM, f_VM, z_VM⟩ := VM.open
        have Bo := B
        have hn4 : (3 :: xs).length = 1 + n := by simp; omega
        have hb3 := bytes3 hB
        generalize 3 :: xs = zs4 at *
        go_wp2_with fail
        refine (drawHolds_ok c4 (1 + n) d4 zs4 _ O4.rd hb3 hn4 (by omega)).mono ?_
        rintro e w5 ⟨x', f, t', r, l, u, v, s, m, d, ys, rfl, hys, hm, RP, b5⟩
        clear s_VA f_VA z_VA s_VB f_VB z_VB s_VM f_VM z_VM
        have S5 := b5.size
        replace VA := VA.kept b5
        replace VB := VB.kept b5
        replace VM := VM.kept b5
        replace B := thenB B b5
        clear b5
        obtain ⟨s_VA, f_VA, z_VA⟩ := VA.open
        obtain ⟨s_VB, f_VB, z_VB⟩ := VB.open
        obtain ⟨s_VM, f_VM, z_VM⟩ := VM.open
        have Bo := B
        clear RP hys O4
        replace VA := VA.kept (belowA w5 (.cells #[.int .i64 x'.a, .int .i64 x'.b, .int .i64 x'.c, .int .i64 x'.d, .int .i64 x'.e, .int .i64 x'.f, .int .i64 x'.g, .int .i64 x'.h, .int .i64 x'.r] 27))
        replace VB := VB.kept (belowA w5 (.cells #[.int .i64 x'.a, .int .i64 x'.b, .int .i64 x'.c, .int .i64 x'.d, .int .i64 x'.e, .int .i64 x'.f, .int .i64 x'.g, .int .i64 x'.h, .int .i64 x'.r] 27))
        replace VM := VM.kept (belowA w5 (.cells #[.int .i64 x'.a, .int .i64 x'.b, .int .i64 x'.c, .int .i64 x'.d, .int .i64 x'.e, .int .i64 x'.f, .int .i64 x'.g, .int .i64 x'.h, .int .i64 x'.r] 27))
        replace B := thenB B (belowA w5 (.cells #[.int .i64 x'.a, .int .i64 x'.b, .int .i64 x'.c, .int .i64 x'.d, .int .i64 x'.e, .int .i64 x'.f, .int .i64 x'.g, .int .i64 x'.h, .int .i64 x'.r] 27))
        have V5 := V.new w5 [.int .i64 x'.a, .int .i64 x'.b, .int .i64 x'.c, .int .i64 x'.d, .int .i64 x'.e, .int .i64 x'.f, .int .i64 x'.g, .int .i64 x'.h, .int .i64 x'.r] 27
        replace VA := VA.kept (belowA (w5.alloc (.cells #[.int .i64 x'.a, .int .i64 x'.b, .int .i64 x'.c, .int .i64 x'.d, .int .i64 x'.e, .int .i64 x'.f, .int .i64 x'.g, .int .i64 x'.h, .int .i64 x'.r] 27)) (.cells #[.int .i64 f, .int .i64 t', .int .i64 r, .int .i64 l, .int .i64 u, .int .i64 v, .slice s m d] 35))
        replace VB := VB.kept (belowA (w5.alloc (.cells #[.int .i64 x'.a, .int .i64 x'.b, .int .i64 x'.c, .int .i64 x'.d, .int .i64 x'.e, .int .i64 x'.f, .int .i64 x'.g, .int .i64 x'.h, .int .i64 x'.r] 27)) (.cells #[.int .i64 f, .int .i64 t', .int .i64 r, .int .i64 l, .int .i64 u, .int .i64 v, .slice s m d] 35))
        replace VM := VM.kept (belowA (w5.alloc (.cells #[.int .i64 x'.a, .int .i64 x'.b, .int .i64 x'.c, .int .i64 x'.d, .int .i64 x'.e, .int .i64 x'.f, .int .i64 x'.g, .int .i64 x'.h, .int .i64 x'.r] 27)) (.cells #[.int .i64 f, .int .i64 t', .int .i64 r, .int .i64 l, .int .i64 u, .int .i64 v, .slice s m d] 35))
        replace V5 := V5.kept (belowA (w5.alloc (.cells #[.int .i64 x'.a, .int .i64 x'.b, .int .i64 x'.c, .int .i64 x'.d, .int .i64 x'.e, .int .i64 x'.f, .int .i64 x'.g, .int .i64 x'.h, .int .i64 x'.r] 27)) (.cells #[.int .i64 f, .int .i64 t', .int .i64 r, .int .i64 l, .int .i64 u, .int .i64 v, .slice s m d] 35))
        replace B := thenB B (belowA (w5.alloc (.cells #[.int .i64 x'.a, .int .i64 x'.b, .int .i64 x'.c, .int .i64 x'.d, .int .i64 x'.e, .int .i64 x'.f, .int .i64 x'.g, .int .i64 x'.h, .int .i64 x'.r] 27)) (.cells #[.int .i64 f, .int .i64 t', .int .i64 r, .int .i64 l, .int .i64 u, .int .i64 v, .slice s m d] 35))
        have V6 : V ((w5.alloc (.cells #[.int .i64 x'.a, .int .i64 x'.b, .int .i64 x'.c, .int .i64 x'.d, .int .i64 x'.e, .int .i64 x'.f, .int .i64 x'.g, .int .i64 x'.h, .int .i64 x'.r] 27)).alloc (.cells #[.int .i64 f, .int .i64 t', .int .i64 r, .int .i64 l, .int .i64 u, .int .i64 v, .slice s m d] 35)) (w5.heap.size + 1) [.int .i64 f, .int .i64 t', .int .i64 r, .int .i64 l, .int .i64 u, .int .i64 v, .slice s m d] := V.newAt _ _ _ _ (by simp)
        clear V5
        obtain ⟨r1, hr1⟩ : ∃ r1, r1 = if x.r = 0 then 6 else x.r := ⟨_, rfl⟩
        obtain ⟨r2, hr2⟩ : ∃ r2, r2 = if y.r = 0 then 6 else y.r := ⟨_, rfl⟩
        have q8 := fieldPkt
        have C1 := Hid.mk (fun w => implSample_ok x hx r1 hr1 w)
        have C2 := Hid.mk (fun w => implSample_ok y hy r2 hr2 w)
        replace hr1 := Hid.mk hr1
        replace hr2 := Hid.mk hr2
        clear s_VA f_VA z_VA s_VB f_VB z_VB s_VM f_VM z_VM
        have Z0 := VA.1
        have Z1 := VB.1
        have Z2 := VM.1
        have Z3 := B.size
        simp only [World.size_alloc] at Z0 Z1 Z2 Z3
        have K : ∀ w' : World, Below ((w5.alloc (.cells #[.int .i64 x'.a, .int .i64 x'.b, .int .i64 x'.c, .int .i64 x'.d, .int .i64 x'.e, .int .i64 x'.f, .int .i64 x'.g, .int .i64 x'.h, .int .i64 x'.r] 27)).alloc (.cells #[.int .i64 f, .int .i64 t', .int .i64 r, .int .i64 l, .int .i64 u, .int .i64 v, .slice s m d] 35)).heap.size ((w5.alloc (.cells #[.int .i64 x'.a, .int .i64 x'.b, .int .i64 x'.c, .int .i64 x'.d, .int .i64 x'.e, .int .i64 x'.f, .int .i64 x'.g, .int .i64 x'.h, .int .i64 x'.r] 27)).alloc (.cells #[.int .i64 f, .int .i64 t', .int .i64 r, .int .i64 l, .int .i64 u, .int .i64 v, .slice s m d] 35)) w' → (w'.cell? ⟨w5.heap.size + 1, 0, none⟩ = some (.int .i64 f) ∧ w'.cell? ⟨w5.heap.size + 1, 1, none⟩ = some (.int .i64 t') ∧ w'.cell? ⟨w5.heap.size + 1, 2, none⟩ = some (.int .i64 r) ∧ w'.cell? ⟨w5.heap.size + 1, 3, none⟩ = some (.int .i64 l) ∧ w'.cell? ⟨w5.heap.size + 1, 4, none⟩ = some (.int .i64 u) ∧ w'.cell? ⟨w5.heap.size + 1, 5, none⟩ = some (.int .i64 v) ∧ w'.cell? ⟨w5.heap.size + 1, 6, none⟩ = some (.slice s m d) ∧ w'.cell? ⟨w1.heap.size, 0, none⟩ = some (.int .i64 x.a) ∧ w'.cell? ⟨w1.heap.size, 1, none⟩ = some (.int .i64 x.b) ∧ w'.cell? ⟨w1.heap.size, 2, none⟩ = some (.int .i64 x.c) ∧ w'.cell? ⟨w1.heap.size, 3, none⟩ = some (.int .i64 x.d) ∧ w'.cell? ⟨w1.heap.size, 4, none⟩ = some (.int .i64 x.e) ∧ w'.cell? ⟨w1.heap.size, 5, none⟩ = some (.int .i64 x.f) ∧ w'.cell? ⟨w1.heap.size, 6, none⟩ = some (.int .i64 x.g) ∧ w'.cell? ⟨w1.heap.size, 7, none⟩ = some (.int .i64 x.h) ∧ w'.cell? ⟨w1.heap.size, 8, none⟩ = some (.int .i64 x.r) ∧ w'.cell? ⟨w1.heap.size + 1, 0, none⟩ = some (.int .i64 y.a) ∧ w'.cell? ⟨w1.heap.size + 1, 1, none⟩ = some (.int .i64 y.b) ∧ w'.cell? ⟨w1.heap.size + 1, 2, none⟩ = some (.int .i64 y.c) ∧ w'.cell? ⟨w1.heap.size + 1, 3, none⟩ = some (.int .i64 y.d) ∧ w'.cell? ⟨w1.heap.size + 1, 4, none⟩ = some (.int .i64 y.e) ∧ w'.cell? ⟨w1.heap.size + 1, 5, none⟩ = some (.int .i64 y.f) ∧ w'.cell? ⟨w1.heap.size + 1, 6, none⟩ = some (.int .i64 y.g) ∧ w'.cell? ⟨w1.heap.size + 1, 7, none⟩ = some (.int .i64 y.h) ∧ w'.cell? ⟨w1.heap.size + 1, 8, none⟩ = some (.int .i64 y.r)) := fun w' h => ⟨(V6.kept h).2.1 0 (by simp), (V6.kept h).2.1 1 (by simp), (V6.kept h).2.1 2 (by simp), (V6.kept h).2.1 3 (by simp), (V6.kept h).2.1 4 (by simp), (V6.kept h).2.1 5 (by simp), (V6.kept h).2.1 6 (by simp), (VA.kept h).2.1 0 (by simp), (VA.kept h).2.1 1 (by simp), (VA.kept h).2.1 2 (by simp), (VA.kept h).2.1 3 (by simp), (VA.kept h).2.1 4 (by simp), (VA.kept h).2.1 5 (by simp), (VA.kept h).2.1 6 (by simp), (VA.kept h).2.1 7 (by simp), (VA.kept h).2.1 8 (by simp), (VB.kept h).2.1 0 (by simp), (VB.kept h).2.1 1 (by simp), (VB.kept h).2.1 2 (by simp), (VB.kept h).2.1 3 (by simp), (VB.kept h).2.1 4 (by simp), (VB.kept h).2.1 5 (by simp), (VB.kept h).2.1 6 (by simp), (VB.kept h).2.1 7 (by simp), (VB.kept h).2.1 8 (by simp)⟩
        have K := Hid.mk K
        go_upto_region 8 with fail
        go_cut [8] (fun p wx => ∃ c d', p = .slice c 3 d' ∧ OwnK wx w.heap.size c d' [(⟨f, t', r, l, u, v, s, m, d⟩ : K7), ⟨x.a, x.c, r1, 64, x.e, x.g, none, 0, 0⟩, ⟨y.a, y.c, r2, 64, y.e, y.g, none, 0, 0⟩] ∧ V wx (w1.heap.size) [.int .i64 x.a, .int .i64 x.b, .int .i64 x.c, .int .i64 x.d, .int .i64 x.e, .int .i64 x.f, .int .i64 x.g, .int .i64 x.h, .int .i64 x.r] ∧ V wx (w1.heap.size + 1) [.int .i64 y.a, .int .i64 y.b, .int .i64 y.c, .int .i64 y.d, .int .i64 y.e, .int .i64 y.f, .int .i64 y.g, .int .i64 y.h, .int .i64 y.r] ∧ V wx (w2.heap.size) [.int .i64 (mtC x y), .int .i64 (mtS x y).a, .int .i64 (mtS x y).b, .int .i64 (mtS x y).c, .int .i64 (mtS x y).d, .int .i64 (mtS x y).e, .int .i64 (mtS x y).f, .int .i64 (mtS x y).g, .int .i64 (mtS x y).h, .int .i64 (mtS x y).r] ∧ Below w.heap.size w wx ∧ (∀ b : Addr, c = some b → w1.heap.size < b.block ∧ w1.heap.size + 1 < b.block ∧ w2.heap.size < b.block))
        case first =>
          go_wp2_with fail
          refine wp_region_held_drew (S := (fun w' => w'.cell? ⟨w5.heap.size + 1, 0, none⟩ = some (.int .i64 f) ∧ w'.cell? ⟨w5.heap.size + 1, 1, none⟩ = some (.int .i64 t') ∧ w'.cell? ⟨w5.heap.size + 1, 2, none⟩ = some (.int .i64 r) ∧ w'.cell? ⟨w5.heap.size + 1, 3, none⟩ = some (.int .i64 l) ∧ w'.cell? ⟨w5.heap.size + 1, 4, none⟩ = some (.int .i64 u) ∧ w'.cell? ⟨w5.heap.size + 1, 5, none⟩ = some (.int .i64 v) ∧ w'.cell? ⟨w5.heap.size + 1, 6, none⟩ = some (.slice s m d) ∧ w'.cell? ⟨w1.heap.size, 0, none⟩ = some (.int .i64 x.a) ∧ w'.cell? ⟨w1.heap.size, 1, none⟩ = some (.int .i64 x.b) ∧ w'.cell? ⟨w1.heap.size, 2, none⟩ = some (.int .i64 x.c) ∧ w'.cell? ⟨w1.heap.size, 3, none⟩ = some (.int .i64 x.d) ∧ w'.cell? ⟨w1.heap.size, 4, none⟩ = some (.int .i64 x.e) ∧ w'.cell? ⟨w1.heap.size, 5, none⟩ = some (.int .i64 x.f) ∧ w'.cell? ⟨w1.heap.size, 6, none⟩ = some (.int .i64 x.g) ∧ w'.cell? ⟨w1.heap.size, 7, none⟩ = some (.int .i64 x.h) ∧ w'.cell? ⟨w1.heap.size, 8, none⟩ = some (.int .i64 x.r) ∧ w'.cell? ⟨w1.heap.size + 1, 0, none⟩ = some (.int .i64 y.a) ∧ w'.cell? ⟨w1.heap.size + 1, 1, none⟩ = some (.int .i64 y.b) ∧ w'.cell? ⟨w1.heap.size + 1, 2, none⟩ = some (.int .i64 y.c) ∧ w'.cell? ⟨w1.heap.size + 1, 3, none⟩ = some (.int .i64 y.d) ∧ w'.cell? ⟨w1.heap.size + 1, 4, none⟩ = some (.int .i64 y.e) ∧ w'.cell? ⟨w1.heap.size + 1, 5, none⟩ = some (.int .i64 y.f) ∧ w'.cell? ⟨w1.heap.size + 1, 6, none⟩ = some (.int .i64 y.g) ∧ w'.cell? ⟨w1.heap.size + 1, 7, none⟩ = some (.int .i64 y.h) ∧ w'.cell? ⟨w1.heap.size + 1, 8, none⟩ = some (.int .i64 y.r))) (by kernel_rfl) (K.out _ (Below.refl _ _).drew) (fun hHeld => ?_)
          refine wpAnyH_take (i := 0) (oi := _) (v := ?vmu1) rfl (by kernel_rfl) (by kernel_rfl) (by kernel_rfl) (fun _ _ _ h => h) (Or.inl ⟨by rfl, ?hymu1⟩) hHeld ?restmu1
          case hymu1 => (intro w hSw; (try dsimp only at hSw); go_simp; first | done | with_reducible rfl)
          try simp only [Act.put, List.getElem_toArray, List.getElem_cons_zero, List.setIfInBounds_toArray, List.set_cons_zero, List.set_cons_succ]
          refine wpAnyH_take (i := 1) (oi := _) (v := ?vmu2) rfl (by kernel_rfl) (by kernel_rfl) (by kernel_rfl) (fun _ _ _ h => h) (Or.inl ⟨by rfl, ?hymu2⟩) hHeld ?restmu2
          case hymu2 => (intro w hSw; (try dsimp only at hSw); go_simp; first | done | with_reducible rfl)
          try simp only [Act.put, List.getElem_toArray, List.getElem_cons_zero, List.getElem_cons_succ, List.setIfInBounds_toArray, List.set_cons_zero, List.set_cons_succ]
          refine wpAnyH_take (i := 4) (oi := _) (v := ?vmu3) rfl (by kernel_rfl) (by kernel_rfl) (by kernel_rfl) (fun _ _ _ h => h) (Or.inl ⟨by rfl, ?hymu3⟩) hHeld ?restmu3
          case hymu3 => (intro w hSw; (try dsimp only at hSw); go_simp; first | done | with_reducible rfl)
          try simp only [Act.put, List.getElem_toArray, List.getElem_cons_zero, List.getElem_cons_succ, List.setIfInBounds_toArray, List.set_cons_zero, List.set_cons_succ]
          refine wpAnyH_ready (rs := [2]) (by kernel_rfl) (by simp) ?_
          refine AllReadyH.cons (o := _) rfl (fun K0 hK0 => ?_) AllReadyH.nil
          go_simp
          go_at_call 15
          refine (C1.out _).mono ?_
          rintro e wmv4 ⟨rfl, bmv4⟩
          refine hK0.out _ _ (K.out _ (thenB (Below.refl _ _).drew bmv4)) (fun hHeld => ?_)
          clear hK0 K0
          try simp only [Act.put, List.getElem_toArray, List.getElem_cons_zero, List.getElem_cons_succ, List.setIfInBounds_toArray, List.set_cons_zero, List.set_cons_succ]
          refine wpAnyH_take (i := 3) (oi := _) (v := ?vmu5) rfl (by kernel_rfl) (by kernel_rfl) (by kernel_rfl) (fun _ _ _ h => h) (Or.inl ⟨by rfl, ?hymu5⟩) hHeld ?restmu5
          case hymu5 => (intro w hSw; (try dsimp only at hSw); go_simp; first | done | with_reducible rfl)
          try simp only [Act.put, List.getElem_toArray, List.getElem_cons_zero, List.getElem_cons_succ, List.setIfInBounds_toArray, List.set_cons_zero, List.set_cons_succ]
          refine wpAnyH_ready (rs := [5]) (by kernel_rfl) (by simp) ?_
          refine AllReadyH.cons (o := _) rfl (fun K0 hK0 => ?_) AllReadyH.nil
          go_simp
          go_at_call 15
          refine (C2.out _).mono ?_
          rintro e wmv6 ⟨rfl, bmv6⟩
          refine hK0.out _ _ (K.out _ (thenB (thenB (Below.refl _ _).drew bmv4) bmv6)) (fun hHeld => ?_)
          clear hK0 K0
          try simp only [Act.put, List.getElem_toArray, List.getElem_cons_zero, List.getElem_cons_succ, List.setIfInBounds_toArray, List.set_cons_zero, List.set_cons_succ]
          refine wpAnyH_take (i := 6) (oi := _) (v := ?vmu7) rfl (by kernel_rfl) (by kernel_rfl) (by kernel_rfl) (fun _ _ _ h => h) (Or.inl ⟨by rfl, ?hymu7⟩) hHeld ?restmu7
          case hymu7 => (intro w hSw; (try dsimp only at hSw); go_simp; first | done | with_reducible rfl)
          try simp only [Act.put, List.getElem_toArray, List.getElem_cons_zero, List.getElem_cons_succ, List.setIfInBounds_toArray, List.set_cons_zero, List.set_cons_succ]
          refine wpAnyH_ready (rs := [7]) (by kernel_rfl) (by simp) ?_
          refine AllReadyH.cons (o := _) rfl (fun K0 hK0 => ?_) AllReadyH.nil
          go_simp
          refine hK0.out _ _ (K.out _ (thenB (thenB (thenB (Below.refl _ _).drew bmv4) bmv6) (belowA _ _))) (fun hHeld => ?_)
          clear hK0 K0
          try simp only [Act.put, List.getElem_toArray, List.getElem_cons_zero, List.getElem_cons_succ, List.setIfInBounds_toArray, List.set_cons_zero, List.set_cons_succ]
          refine wpAnyH_take (i := 8) (oi := _) (v := ?vmu8) rfl (by kernel_rfl) (by kernel_rfl) (by kernel_rfl) (fun _ _ _ h => h) (Or.inl ⟨by rfl, ?hymu8⟩) hHeld ?restmu8
          case hymu8 => (intro w hSw; (try dsimp only at hSw); go_simp; first | done | with_reducible rfl)
          try simp only [Act.put, List.getElem_toArray, List.getElem_cons_zero, List.getElem_cons_succ, List.setIfInBounds_toArray, List.set_cons_zero, List.set_cons_succ]
          refine wpAnyH_done (by kernel_rfl) ?_ _
          have bk := thenB (thenB (thenB (Below.refl _ _).drew bmv4) bmv6) (belowA _ (.cells #[.int .i64 f, .int .i64 t', .int .i64 r, .int .i64 l, .int .i64 u, .int .i64 v, .slice s m d, .int .i64 x.a, .int .i64 x.c, .int .i64 r1, .int .i64 64, .int .i64 x.e, .int .i64 x.g, .slice none 0 0, .int .i64 y.a, .int .i64 y.c, .int .i64 r2, .int .i64 64, .int .i64 y.e, .int .i64 y.g, .slice none 0 0] 35))
          have hsz := bk.size
          simp only [World.size_alloc] at hsz
          go_wp2_with fail
          go_meet
          refine ⟨_, _, rfl, OwnK.mono (OwnK.lit _ [(⟨f, t', r, l, u, v, s, m, d⟩ : K7), ⟨x.a, x.c, r1, 64, x.e, x.g, none, 0, 0⟩, ⟨y.a, y.c, r2, 64, y.e, y.g, none, 0, 0⟩] _ rfl (by simp [maxLen])) ?_, VA.kept bk, VB.kept bk, VM.kept bk, thenB B bk, ?_⟩
          · have := ((thenB (thenB (Below.refl _ _).drew bmv4) bmv6)).size; (try simp only [World.size_alloc] at this); omega
          · intro b hb
            simp only [Option.some.injEq] at hb
            subst hb
            have := ((thenB (thenB (Below.refl _ _).drew bmv4) bmv6)).size
            (try simp only [World.size_alloc] at this)
            dsimp only
            omega
        case rest =>
          clear K VA VB VM B C1 C2
          obtain ⟨c, d', rfl, OL, VA, VB, VM, B, hne⟩ := hcut
          replace hne := Hid.mk hne
          have HM0 := meet_holds hx hy
          have hcm := mtC_comm hx hy
          have hsa := Hid.mk (holds_sample hx r1 hr1.out)
          have hwi := wiP_self hx
          have CA := Hid.mk (fun (p : K7) w => implHolds_ok x p.f p.t p.r p.l p.u p.v p.s p.m p.d w)
          have CB := Hid.mk (fun (p : K7) w => implHolds_ok y p.f p.t p.r p.l p.u p.v p.s p.m p.d w)
          have CW := Hid.mk (fun w => implWithinSel_ok x x w)
          rw [hwi] at CW
          have CN := Hid.mk (fun w => implMeetSels_ok y x w)
          rw [← hcm] at CN
          clear hwi hcm
          by_cases hm : mtC x y = 0
          · skip
            have hF := mt_fault hx hy hm
            have HM : ∀ f t r l u v n, (hoP x f t r l u v n && hoP y f t r l u v n) = hoP (mtS x y) f t r l u v n := fun f t r l u v n => by have h := HM0 f t r l u v n; rw [hm] at h; simpa using h
            rw [hm] at VM CN
            clear HM0
            generalize mtS x y = z at *
            generalize mtS y x = z2 at *
            obtain ⟨r3, hr3⟩ : ∃ r3, r3 = if z.r = 0 then 6 else z.r := ⟨_, rfl⟩
            have C3 := Hid.mk (fun w => implSample_ok z hF r3 hr3 w)
            replace hr3 := Hid.mk hr3
            replace HM := Hid.mk HM
            have CZ := Hid.mk (fun (p : K7) w => implHolds_ok z p.f p.t p.r p.l p.u p.v p.s p.m p.d w)
            obtain ⟨s_VA, f_VA, z_VA⟩ := VA.open
            obtain ⟨s_VB, f_VB, z_VB⟩ := VB.open
            obtain ⟨s_VM, f_VM, z_VM⟩ := VM.open
            have Bo := B
            go_wp2_with fail
            refine (C3.out _).mono ?_
            rintro e w11 ⟨rfl, b11⟩
            clear s_VA f_VA z_VA s_VB f_VB z_VB s_VM f_VM z_VM
            have S11 := b11.size
            replace VA := VA.kept b11
            replace VB := VB.kept b11
            replace VM := VM.kept b11
            replace OL := OL.kept b11
            replace B := thenB B b11
            clear b11
            obtain ⟨s_VA, f_VA, z_VA⟩ := VA.open
            obtain ⟨s_VB, f_VB, z_VB⟩ := VB.open
            obtain ⟨s_VM, f_VM, z_VM⟩ := VM.open
            have Bo := B
            clear s_VA f_VA z_VA s_VB f_VB z_VB s_VM f_VM z_VM
            clear C3 Bo
            replace VA := VA.kept (belowA w11 (.cells #[.int .i64 z.a, .int .i64 z.c, .int .i64 r3, .int .i64 64, .int .i64 z.e, .int .i64 z.g, .slice none 0 0] 35))
            replace VB := VB.kept (belowA w11 (.cells #[.int .i64 z.a, .int .i64 z.c, .int .i64 r3, .int .i64 64, .int .i64 z.e, .int .i64 z.g, .slice none 0 0] 35))
            replace VM := VM.kept (belowA w11 (.cells #[.int .i64 z.a, .int .i64 z.c, .int .i64 r3, .int .i64 64, .int .i64 z.e, .int .i64 z.g, .slice none 0 0] 35))
            replace OL := OL.kept (belowA w11 (.cells #[.int .i64 z.a, .int .i64 z.c, .int .i64 r3, .int .i64 64, .int .i64 z.e, .int .i64 z.g, .slice none 0 0] 35))
            replace B := thenB B (belowA w11 (.cells #[.int .i64 z.a, .int .i64 z.c, .int .i64 r3, .int .i64 64, .int .i64 z.e, .int .i64 z.g, .slice none 0 0] 35))
            have TL := B.size
            go_wp2_with (at_builtin; go_loud (refine wpList_putK _ rfl _ _ rfl w.heap.size c d' [(⟨f, t', r, l, u, v, s, m, d⟩ : K7), ⟨x.a, x.c, r1, 64, x.e, x.g, none, 0, 0⟩, ⟨y.a, y.c, r2, 64, y.e, y.g, none, 0, 0⟩] 3 rfl rfl OL _ 1 ⟨z.a, z.c, r3, 64, z.e, z.g, none, 0, 0⟩ rfl (newCells _ _ (rowK ⟨z.a, z.c, r3, 64, z.e, z.g, none, 0, 0⟩)) (by decide) TL ?_))
            intro c5 d5 w12 O5 hg5 hx5
            clear hx5
            replace VA := VA.grownR hg5 (row_ne fun b hb => by have := hne.out b hb; omega)
            replace VB := VB.grownR hg5 (row_ne fun b hb => by have := hne.out b hb; omega)
            replace VM := VM.grownR hg5 (row_ne fun b hb => by have := hne.out b hb; omega)
            replace B := belowG B hg5 TL (fun b hb => (OL.lt b hb).1)
            have RK := O5.rd
            clear OL O5 hg5 TL hne
            obtain ⟨ps, hps⟩ : ∃ ps, [(⟨f, t', r, l, u, v, s, m, d⟩ : K7), ⟨x.a, x.c, r1, 64, x.e, x.g, none, 0, 0⟩, ⟨y.a, y.c, r2, 64, y.e, y.g, none, 0, 0⟩, ⟨z.a, z.c, r3, 64, z.e, z.g, none, 0, 0⟩] = ps := ⟨_, rfl⟩
            have hl : ps.length = 4 := by rw [← hps]; rfl
            have hp1 : ps.getD 1 z7 = ⟨x.a, x.c, r1, 64, x.e, x.g, none, 0, 0⟩ := by rw [← hps]; rfl
            have hp3 : ps.getD 3 z7 = ⟨z.a, z.c, r3, 64, z.e, z.g, none, 0, 0⟩ := by rw [← hps]; rfl
            rw [hps] at RK
            rcases RK with h0 | ⟨b3, o3, rfl, hc⟩
            · rw [h0] at hl; cases hl
            have RQ : RdK w12 (some ⟨b3, o3, none⟩) ps := .inr ⟨b3, o3, rfl, hc⟩
            clear hc hps
            obtain ⟨s_VA, f_VA, z_VA⟩ := VA.open
            obtain ⟨s_VB, f_VB, z_VB⟩ := VB.open
            obtain ⟨s_VM, f_VM, z_VM⟩ := VM.open
            have Bo := B
            obtain ⟨q0, q1, q2, q3, q4, q5, q6⟩ := RdK.at RQ 3 (by omega) _ hp3
            dsimp only at q0 q1 q2 q3 q4 q5 q6
            simp only [Nat.reduceMul] at q0 q1 q2 q3 q4 q5 q6
            have hb3 := World.block_lt_of_cell? (a := ⟨b3, o3 + 21, none⟩) _ q0
            simp only at hb3
            have hh3 : hoP z z.a z.c r3 64 z.e z.g 0 = true := holds_sample hF r3 hr3.out
            have C3 := Hid.mk (CZ.out ⟨z.a, z.c, r3, 64, z.e, z.g, none, 0, 0⟩)
            rw [hh3] at C3
            have CF := Hid.mk (fun w => implSelFault_ok z w)
            rw [hF] at CF
            clear s_VA f_VA z_VA s_VB f_VB z_VB s_VM f_VM z_VM
            have K : ∀ w' : World, Below w12.heap.size w12 w' → (w'.cell? ⟨w2.heap.size, 0, none⟩ = some (.int .i64 0) ∧ w'.cell? ⟨w2.heap.size, 1, none⟩ = some (.int .i64 z.a) ∧ w'.cell? ⟨w2.heap.size, 2, none⟩ = some (.int .i64 z.b) ∧ w'.cell? ⟨w2.heap.size, 3, none⟩ = some (.int .i64 z.c) ∧ w'.cell? ⟨w2.heap.size, 4, none⟩ = some (.int .i64 z.d) ∧ w'.cell? ⟨w2.heap.size, 5, none⟩ = some (.int .i64 z.e) ∧ w'.cell? ⟨w2.heap.size, 6, none⟩ = some (.int .i64 z.f) ∧ w'.cell? ⟨w2.heap.size, 7, none⟩ = some (.int .i64 z.g) ∧ w'.cell? ⟨w2.heap.size, 8, none⟩ = some (.int .i64 z.h) ∧ w'.cell? ⟨w2.heap.size, 9, none⟩ = some (.int .i64 z.r) ∧ w'.cell? ⟨b3, o3 + 21, none⟩ = some (.int .i64 z.a) ∧ w'.cell? ⟨b3, o3 + 21 + 1, none⟩ = some (.int .i64 z.c) ∧ w'.cell? ⟨b3, o3 + 21 + 2, none⟩ = some (.int .i64 r3) ∧ w'.cell? ⟨b3, o3 + 21 + 3, none⟩ = some (.int .i64 64) ∧ w'.cell? ⟨b3, o3 + 21 + 4, none⟩ = some (.int .i64 z.e) ∧ w'.cell? ⟨b3, o3 + 21 + 5, none⟩ = some (.int .i64 z.g) ∧ w'.cell? ⟨b3, o3 + 21 + 6, none⟩ = some (.slice none 0 0)) := fun w' h => ⟨(VM.kept h).2.1 0 (by simp), (VM.kept h).2.1 1 (by simp), (VM.kept h).2.1 2 (by simp), (VM.kept h).2.1 3 (by simp), (VM.kept h).2.1 4 (by simp), (VM.kept h).2.1 5 (by simp), (VM.kept h).2.1 6 (by simp), (VM.kept h).2.1 7 (by simp), (VM.kept h).2.1 8 (by simp), (VM.kept h).2.1 9 (by simp), ((bcell h).1 _ _ hb3).trans q0, ((bcell h).1 _ _ hb3).trans q1, ((bcell h).1 _ _ hb3).trans q2, ((bcell h).1 _ _ hb3).trans q3, ((bcell h).1 _ _ hb3).trans q4, ((bcell h).1 _ _ hb3).trans q5, ((bcell h).1 _ _ hb3).trans q6⟩
            have K := Hid.mk K
            clear q0 q1 q2 q3 q4 q5 q6
            go_wp2_with fail
            refine wp_region_held_drew (S := (fun w' => w'.cell? ⟨w2.heap.size, 0, none⟩ = some (.int .i64 0) ∧ w'.cell? ⟨w2.heap.size, 1, none⟩ = some (.int .i64 z.a) ∧ w'.cell? ⟨w2.heap.size, 2, none⟩ = some (.int .i64 z.b) ∧ w'.cell? ⟨w2.heap.size, 3, none⟩ = some (.int .i64 z.c) ∧ w'.cell? ⟨w2.heap.size, 4, none⟩ = some (.int .i64 z.d) ∧ w'.cell? ⟨w2.heap.size, 5, none⟩ = some (.int .i64 z.e) ∧ w'.cell? ⟨w2.heap.size, 6, none⟩ = some (.int .i64 z.f) ∧ w'.cell? ⟨w2.heap.size, 7, none⟩ = some (.int .i64 z.g) ∧ w'.cell? ⟨w2.heap.size, 8, none⟩ = some (.int .i64 z.h) ∧ w'.cell? ⟨w2.heap.size, 9, none⟩ = some (.int .i64 z.r) ∧ w'.cell? ⟨b3, o3 + 21, none⟩ = some (.int .i64 z.a) ∧ w'.cell? ⟨b3, o3 + 21 + 1, none⟩ = some (.int .i64 z.c) ∧ w'.cell? ⟨b3, o3 + 21 + 2, none⟩ = some (.int .i64 r3) ∧ w'.cell? ⟨b3, o3 + 21 + 3, none⟩ = some (.int .i64 64) ∧ w'.cell? ⟨b3, o3 + 21 + 4, none⟩ = some (.int .i64 z.e) ∧ w'.cell? ⟨b3, o3 + 21 + 5, none⟩ = some (.int .i64 z.g) ∧ w'.cell? ⟨b3, o3 + 21 + 6, none⟩ = some (.slice none 0 0))) (by kernel_rfl) (K.out _ (Below.refl _ _).drew) (fun hHeld => ?_)
            refine wpAnyH_take (i := 0) (oi := _) (v := ?vz1u1) rfl (by kernel_rfl) (by kernel_rfl) (by kernel_rfl) (fun _ _ _ h => h) (Or.inl ⟨by rfl, ?hyz1u1⟩) hHeld ?restz1u1
            case hyz1u1 => (intro w hSw; (try dsimp only at hSw); go_simp; first | done | with_reducible rfl)
            try simp only [Act.put, List.getElem_toArray, List.getElem_cons_zero, List.setIfInBounds_toArray, List.set_cons_zero, List.set_cons_succ]
            refine wpAnyH_take (i := 1) (oi := _) (v := ?vz1u2) rfl (by kernel_rfl) (by kernel_rfl) (by kernel_rfl) (fun _ _ _ h => h) (Or.inl ⟨by rfl, ?hyz1u2⟩) hHeld ?restz1u2
            case hyz1u2 => (intro w hSw; (try dsimp only at hSw); go_simp; first | done | with_reducible rfl)
            try simp only [Act.put, List.getElem_toArray, List.getElem_cons_zero, List.getElem_cons_succ, List.setIfInBounds_toArray, List.set_cons_zero, List.set_cons_succ]
            refine wpAnyH_ready (rs := [2]) (by kernel_rfl) (by simp) ?_
            refine AllReadyH.cons (o := _) rfl (fun K0 hK0 => ?_) AllReadyH.nil
            go_simp
            go_at_call 16
            refine (CF.out _).mono ?_
            rintro e wz1v3 ⟨rfl, bz1v3⟩
            refine hK0.out _ _ (K.out _ (thenB (Below.refl _ _).drew bz1v3)) (fun hHeld => ?_)
            clear hK0 K0
            try simp only [Act.put, List.getElem_toArray, List.getElem_cons_zero, List.getElem_cons_succ, List.setIfInBounds_toArray, List.set_cons_zero, List.set_cons_succ]
            refine wpAnyH_take (i := 3) (oi := _) (v := ?vz1u4) rfl (by kernel_rfl) (by kernel_rfl) (by kernel_rfl) (fun _ _ _ h => h) (Or.inl ⟨by rfl, ?hyz1u4⟩) hHeld ?restz1u4
            case hyz1u4 => (intro w hSw; (try dsimp only at hSw); go_simp; first | done | with_reducible rfl)
            try simp only [Act.put, List.getElem_toArray, List.getElem_cons_zero, List.getElem_cons_succ, List.setIfInBounds_toArray, List.set_cons_zero, List.set_cons_succ]
            refine wpAnyH_take (i := 4) (oi := _) (v := ?vz1u5) rfl (by kernel_rfl) (by kernel_rfl) (by kernel_rfl) (fun _ _ _ h => h) (Or.inl ⟨by rfl, ?hyz1u5⟩) hHeld ?restz1u5
            case hyz1u5 => (intro w hSw; (try dsimp only at hSw); go_simp; first | done | with_reducible rfl)
            try simp only [Act.put, List.getElem_toArray, List.getElem_cons_zero, List.getElem_cons_succ, List.setIfInBounds_toArray, List.set_cons_zero, List.set_cons_succ]
            refine wpAnyH_take (i := 5) (oi := _) (v := ?vz1u6) rfl (by kernel_rfl) (by kernel_rfl) (by kernel_rfl) (fun _ _ _ h => h) (Or.inl ⟨by rfl, ?hyz1u6⟩) hHeld ?restz1u6
            case hyz1u6 => (intro w hSw; (try dsimp only at hSw); go_simp; first | done | with_reducible rfl)
            try simp only [Act.put, List.getElem_toArray, List.getElem_cons_zero, List.getElem_cons_succ, List.setIfInBounds_toArray, List.set_cons_zero, List.set_cons_succ]
            refine wpAnyH_take (i := 6) (oi := _) (v := ?vz1u7) rfl (by kernel_rfl) (by kernel_rfl) (by kernel_rfl) (fun _ _ _ h => h) (Or.inl ⟨by rfl, ?hyz1u7⟩) hHeld ?restz1u7
            case hyz1u7 => (intro w hSw; (try dsimp only at hSw); go_simp; first | done | with_reducible rfl)
            try simp only [Act.put, List.getElem_toArray, List.getElem_cons_zero, List.getElem_cons_succ, List.setIfInBounds_toArray, List.set_cons_zero, List.set_cons_succ]
            refine wpAnyH_take (i := 7) (oi := _) (v := ?vz1u8) rfl (by kernel_rfl) (by kernel_rfl) (by kernel_rfl) (fun _ _ _ h => h) (Or.inl ⟨by rfl, ?hyz1u8⟩) hHeld ?restz1u8
            case hyz1u8 => (intro w hSw; (try dsimp only at hSw); go_simp; first | done | with_reducible rfl)
            try simp only [Act.put, List.getElem_toArray, List.getElem_cons_zero, List.getElem_cons_succ, List.setIfInBounds_toArray, List.set_cons_zero, List.set_cons_succ]
            refine wpAnyH_take (i := 8) (oi := _) (v := ?vz1u9) rfl (by kernel_rfl) (by kernel_rfl) (by kernel_rfl) (fun _ _ _ h => h) (Or.inl ⟨by rfl, ?hyz1u9⟩) hHeld ?restz1u9
            case hyz1u9 => (intro w hSw; (try dsimp only at hSw); go_simp; first | done | with_reducible rfl)
            try simp only [Act.put, List.getElem_toArray, List.getElem_cons_zero, List.getElem_cons_succ, List.setIfInBounds_toArray, List.set_cons_zero, List.set_cons_succ]
            refine wpAnyH_take (i := 9) (oi := _) (v := ?vz1u10) rfl (by kernel_rfl) (by kernel_rfl) (by kernel_rfl) (fun _ _ _ h => h) (Or.inl ⟨by rfl, ?hyz1u10⟩) hHeld ?restz1u10
            case hyz1u10 => (intro w hSw; (try dsimp only at hSw); go_simp; first | done | with_reducible rfl)
            try simp only [Act.put, List.getElem_toArray, List.getElem_cons_zero, List.getElem_cons_succ, List.setIfInBounds_toArray, List.set_cons_zero, List.set_cons_succ]
            refine wpAnyH_ready (rs := [10]) (by kernel_rfl) (by simp) ?_
            refine AllReadyH.cons (o := _) rfl (fun K0 hK0 => ?_) AllReadyH.nil
            go_simp
            go_at_call 17
            refine (C3.out _).mono ?_
            rintro e wz1v11 ⟨rfl, bz1v11⟩
            refine hK0.out _ _ (K.out _ (thenB (thenB (Below.refl _ _).drew bz1v3) bz1v11)) (fun hHeld => ?_)
            clear hK0 K0
            try simp only [Act.put, List.getElem_toArray, List.getElem_cons_zero, List.getElem_cons_succ, List.setIfInBounds_toArray, List.set_cons_zero, List.set_cons_succ]
            refine wpAnyH_take (i := 11) (oi := _) (v := ?vz1u12) rfl (by kernel_rfl) (by kernel_rfl) (by kernel_rfl) (fun _ _ _ h => h) (Or.inl ⟨by rfl, ?hyz1u12⟩) hHeld ?restz1u12
            case hyz1u12 => (intro w hSw; (try dsimp only at hSw); go_simp; first | done | with_reducible rfl)
            try simp only [Act.put, List.getElem_toArray, List.getElem_cons_zero, List.getElem_cons_succ, List.setIfInBounds_toArray, List.set_cons_zero, List.set_cons_succ]
            refine wpAnyH_take (i := 12) (oi := _) (v := ?vz1u13) rfl (by kernel_rfl) (by kernel_rfl) (by kernel_rfl) (fun _ _ _ h => h) (Or.inl ⟨by rfl, ?hyz1u13⟩) hHeld ?restz1u13
            case hyz1u13 => (intro w hSw; (try dsimp only at hSw); go_simp; first | done | with_reducible rfl)
            try simp only [Act.put, List.getElem_toArray, List.getElem_cons_zero, List.getElem_cons_succ, List.setIfInBounds_toArray, List.set_cons_zero, List.set_cons_succ]
            refine wpAnyH_done (by kernel_rfl) ?_ _
            clear K hHeld
            replace VA := VA.kept (thenB (thenB (Below.refl _ _).drew bz1v3) bz1v11)
            replace VB := VB.kept (thenB (thenB (Below.refl _ _).drew bz1v3) bz1v11)
            replace VM := VM.kept (thenB (thenB (Below.refl _ _).drew bz1v3) bz1v11)
            replace RQ := RQ.kept (thenB (thenB (Below.refl _ _).drew bz1v3) bz1v11)
            replace B := thenB B (thenB (thenB (Below.refl _ _).drew bz1v3) bz1v11)
            have Sz1 := ((thenB (thenB (Below.refl _ _).drew bz1v3) bz1v11)).size
            clear bz1v3 bz1v11
            obtain ⟨s_VA, f_VA, z_VA⟩ := VA.open
            obtain ⟨s_VB, f_VB, z_VB⟩ := VB.open
            obtain ⟨s_VM, f_VM, z_VM⟩ := VM.open
            have Bo := B
            clear hh3 C3 CF hp3 hb3
            clear s_VA f_VA z_VA s_VB f_VB z_VB s_VM f_VM z_VM
            replace VA := Hid.mk VA
            replace VB := Hid.mk VB
            replace VM := Hid.mk VM
            replace RQ := Hid.mk RQ
            replace B := Hid.mk B
            replace HM := Hid.mk HM
            go_wp2
            go_loopw [9] (fun i wr => ∃ k : Nat, k ≤ 4 ∧ i = .int .i64 k ∧ V wr (w1.heap.size) [.int .i64 x.a, .int .i64 x.b, .int .i64 x.c, .int .i64 x.d, .int .i64 x.e, .int .i64 x.f, .int .i64 x.g, .int .i64 x.h, .int .i64 x.r] ∧ V wr (w1.heap.size + 1) [.int .i64 y.a, .int .i64 y.b, .int .i64 y.c, .int .i64 y.d, .int .i64 y.e, .int .i64 y.f, .int .i64 y.g, .int .i64 y.h, .int .i64 y.r] ∧ V wr (w2.heap.size) [.int .i64 0, .int .i64 z.a, .int .i64 z.b, .int .i64 z.c, .int .i64 z.d, .int .i64 z.e, .int .i64 z.f, .int .i64 z.g, .int .i64 z.h, .int .i64 z.r] ∧ RdK wr (some ⟨b3, o3, none⟩) ps ∧ Below w.heap.size w wr) (fun i _ => 4 - (intOf i).toNat)
            case atStart => exact ⟨0, Nat.zero_le _, rfl, VA.out, VB.out, VM.out, RQ.out, B.out⟩
            case round =>
              clear VA VB VM RQ B
              obtain ⟨k, hk, rfl, VA, VB, VM, RQ, B⟩ := hrel
              by_cases hlt : k < 4
              · skip
                obtain ⟨p, hp⟩ : ∃ p, ps.getD k z7 = p := ⟨_, rfl⟩
                have E := HM.out p.f p.t p.r p.l p.u p.v p.m
                have C1 := Hid.mk (CA.out p)
                have C2 := Hid.mk (CB.out p)
                have C3 := Hid.mk (CZ.out p)
                have hk1 : (k : Int) < 4 := by omega
                generalize hoP x p.f p.t p.r p.l p.u p.v p.m = t1 at *
                generalize hoP y p.f p.t p.r p.l p.u p.v p.m = t2 at *
                generalize hoP z p.f p.t p.r p.l p.u p.v p.m = t3 at *
                obtain ⟨s_VA, f_VA, z_VA⟩ := VA.open
                obtain ⟨s_VB, f_VB, z_VB⟩ := VB.open
                obtain ⟨s_VM, f_VM, z_VM⟩ := VM.open
                have Bo := B
                obtain ⟨q0, q1, q2, q3, q4, q5, q6⟩ := RdK.at RQ k (by omega) _ hp
                have hb3 := World.block_lt_of_cell? (a := ⟨b3, o3 + k * 7, none⟩) _ q0
                simp only at hb3
                have hp9 := hp
                clear hp
                cases t1
                · skip
                  rw [Bool.false_and] at E
                  subst E
                  clear s_VA f_VA z_VA s_VB f_VB z_VB s_VM f_VM z_VM
                  have K : ∀ w' : World, Below wr.heap.size wr w' → (w'.cell? ⟨w1.heap.size, 0, none⟩ = some (.int .i64 x.a) ∧ w'.cell? ⟨w1.heap.size, 1, none⟩ = some (.int .i64 x.b) ∧ w'.cell? ⟨w1.heap.size, 2, none⟩ = some (.int .i64 x.c) ∧ w'.cell? ⟨w1.heap.size, 3, none⟩ = some (.int .i64 x.d) ∧ w'.cell? ⟨w1.heap.size, 4, none⟩ = some (.int .i64 x.e) ∧ w'.cell? ⟨w1.heap.size, 5, none⟩ = some (.int .i64 x.f) ∧ w'.cell? ⟨w1.heap.size, 6, none⟩ = some (.int .i64 x.g) ∧ w'.cell? ⟨w1.heap.size, 7, none⟩ = some (.int .i64 x.h) ∧ w'.cell? ⟨w1.heap.size, 8, none⟩ = some (.int .i64 x.r) ∧ w'.cell? ⟨w1.heap.size + 1, 0, none⟩ = some (.int .i64 y.a) ∧ w'.cell? ⟨w1.heap.size + 1, 1, none⟩ = some (.int .i64 y.b) ∧ w'.cell? ⟨w1.heap.size + 1, 2, none⟩ = some (.int .i64 y.c) ∧ w'.cell? ⟨w1.heap.size + 1, 3, none⟩ = some (.int .i64 y.d) ∧ w'.cell? ⟨w1.heap.size + 1, 4, none⟩ = some (.int .i64 y.e) ∧ w'.cell? ⟨w1.heap.size + 1, 5, none⟩ = some (.int .i64 y.f) ∧ w'.cell? ⟨w1.heap.size + 1, 6, none⟩ = some (.int .i64 y.g) ∧ w'.cell? ⟨w1.heap.size + 1, 7, none⟩ = some (.int .i64 y.h) ∧ w'.cell? ⟨w1.heap.size + 1, 8, none⟩ = some (.int .i64 y.r) ∧ w'.cell? ⟨b3, o3 + k * 7, none⟩ = some (.int .i64 p.f) ∧ w'.cell? ⟨b3, o3 + k * 7 + 1, none⟩ = some (.int .i64 p.t) ∧ w'.cell? ⟨b3, o3 + k * 7 + 2, none⟩ = some (.int .i64 p.r) ∧ w'.cell? ⟨b3, o3 + k * 7 + 3, none⟩ = some (.int .i64 p.l) ∧ w'.cell? ⟨b3, o3 + k * 7 + 4, none⟩ = some (.int .i64 p.u) ∧ w'.cell? ⟨b3, o3 + k * 7 + 5, none⟩ = some (.int .i64 p.v) ∧ w'.cell? ⟨b3, o3 + k * 7 + 6, none⟩ = some (.slice p.s p.m p.d)) := fun w' h => ⟨(VA.kept h).2.1 0 (by simp), (VA.kept h).2.1 1 (by simp), (VA.kept h).2.1 2 (by simp), (VA.kept h).2.1 3 (by simp), (VA.kept h).2.1 4 (by simp), (VA.kept h).2.1 5 (by simp), (VA.kept h).2.1 6 (by simp), (VA.kept h).2.1 7 (by simp), (VA.kept h).2.1 8 (by simp), (VB.kept h).2.1 0 (by simp), (VB.kept h).2.1 1 (by simp), (VB.kept h).2.1 2 (by simp), (VB.kept h).2.1 3 (by simp), (VB.kept h).2.1 4 (by simp), (VB.kept h).2.1 5 (by simp), (VB.kept h).2.1 6 (by simp), (VB.kept h).2.1 7 (by simp), (VB.kept h).2.1 8 (by simp), ((bcell h).1 _ _ hb3).trans q0, ((bcell h).1 _ _ hb3).trans q1, ((bcell h).1 _ _ hb3).trans q2, ((bcell h).1 _ _ hb3).trans q3, ((bcell h).1 _ _ hb3).trans q4, ((bcell h).1 _ _ hb3).trans q5, ((bcell h).1 _ _ hb3).trans q6⟩
                  have K := Hid.mk K
                  clear q0 q1 q2 q3 q4 q5 q6
                  go_wp2_with fail
                  refine wp_region_held_drew (S := (fun w' => w'.cell? ⟨w1.heap.size, 0, none⟩ = some (.int .i64 x.a) ∧ w'.cell? ⟨w1.heap.size, 1, none⟩ = some (.int .i64 x.b) ∧ w'.cell? ⟨w1.heap.size, 2, none⟩ = some (.int .i64 x.c) ∧ w'.cell? ⟨w1.heap.size, 3, none⟩ = some (.int .i64 x.d) ∧ w'.cell? ⟨w1.heap.size, 4, none⟩ = some (.int .i64 x.e) ∧ w'.cell? ⟨w1.heap.size, 5, none⟩ = some (.int .i64 x.f) ∧ w'.cell? ⟨w1.heap.size, 6, none⟩ = some (.int .i64 x.g) ∧ w'.cell? ⟨w1.heap.size, 7, none⟩ = some (.int .i64 x.h) ∧ w'.cell? ⟨w1.heap.size, 8, none⟩ = some (.int .i64 x.r) ∧ w'.cell? ⟨w1.heap.size + 1, 0, none⟩ = some (.int .i64 y.a) ∧ w'.cell? ⟨w1.heap.size + 1, 1, none⟩ = some (.int .i64 y.b) ∧ w'.cell? ⟨w1.heap.size + 1, 2, none⟩ = some (.int .i64 y.c) ∧ w'.cell? ⟨w1.heap.size + 1, 3, none⟩ = some (.int .i64 y.d) ∧ w'.cell? ⟨w1.heap.size + 1, 4, none⟩ = some (.int .i64 y.e) ∧ w'.cell? ⟨w1.heap.size + 1, 5, none⟩ = some (.int .i64 y.f) ∧ w'.cell? ⟨w1.heap.size + 1, 6, none⟩ = some (.int .i64 y.g) ∧ w'.cell? ⟨w1.heap.size + 1, 7, none⟩ = some (.int .i64 y.h) ∧ w'.cell? ⟨w1.heap.size + 1, 8, none⟩ = some (.int .i64 y.r) ∧ w'.cell? ⟨b3, o3 + k * 7, none⟩ = some (.int .i64 p.f) ∧ w'.cell? ⟨b3, o3 + k * 7 + 1, none⟩ = some (.int .i64 p.t) ∧ w'.cell? ⟨b3, o3 + k * 7 + 2, none⟩ = some (.int .i64 p.r) ∧ w'.cell? ⟨b3, o3 + k * 7 + 3, none⟩ = some (.int .i64 p.l) ∧ w'.cell? ⟨b3, o3 + k * 7 + 4, none⟩ = some (.int .i64 p.u) ∧ w'.cell? ⟨b3, o3 + k * 7 + 5, none⟩ = some (.int .i64 p.v) ∧ w'.cell? ⟨b3, o3 + k * 7 + 6, none⟩ = some (.slice p.s p.m p.d))) (by kernel_rfl) (K.out _ (Below.refl _ _).drew) (fun hHeld => ?_)
                  refine wpAnyH_take (i := 0) (oi := _) (v := ?vz51u1) rfl (by kernel_rfl) (by kernel_rfl) (by kernel_rfl) (fun _ _ _ h => h) (Or.inl ⟨by rfl, ?hyz51u1⟩) hHeld ?restz51u1
                  case hyz51u1 => (intro w hSw; (try dsimp only at hSw); go_simp; first | done | with_reducible rfl)
                  try simp only [Act.put, List.getElem_toArray, List.getElem_cons_zero, List.setIfInBounds_toArray, List.set_cons_zero, List.set_cons_succ]
                  refine wpAnyH_take (i := 1) (oi := _) (v := ?vz51u2) rfl (by kernel_rfl) (by kernel_rfl) (by kernel_rfl) (fun _ _ _ h => h) (Or.inl ⟨by rfl, ?hyz51u2⟩) hHeld ?restz51u2
                  case hyz51u2 => (intro w hSw; (try dsimp only at hSw); go_simp; first | done | with_reducible rfl)
                  try simp only [Act.put, List.getElem_toArray, List.getElem_cons_zero, List.getElem_cons_succ, List.setIfInBounds_toArray, List.set_cons_zero, List.set_cons_succ]
                  refine wpAnyH_take (i := 2) (oi := _) (v := ?vz51u3) rfl (by kernel_rfl) (by kernel_rfl) (by kernel_rfl) (fun _ _ _ h => h) (Or.inl ⟨by rfl, ?hyz51u3⟩) hHeld ?restz51u3
                  case hyz51u3 => (intro w hSw; (try dsimp only at hSw); go_simp; first | done | with_reducible rfl)
                  try simp only [Act.put, List.getElem_toArray, List.getElem_cons_zero, List.getElem_cons_succ, List.setIfInBounds_toArray, List.set_cons_zero, List.set_cons_succ]
                  refine wpAnyH_take (i := 3) (oi := _) (v := ?vz51u4) rfl (by kernel_rfl) (by kernel_rfl) (by kernel_rfl) (fun _ _ _ h => h) (Or.inl ⟨by rfl, ?hyz51u4⟩) hHeld ?restz51u4
                  case hyz51u4 => (intro w hSw; (try dsimp only at hSw); go_simp; first | done | with_reducible rfl)
                  try simp only [Act.put, List.getElem_toArray, List.getElem_cons_zero, List.getElem_cons_succ, List.setIfInBounds_toArray, List.set_cons_zero, List.set_cons_succ]
                  refine wpAnyH_take (i := 4) (oi := _) (v := ?vz51u5) rfl (by kernel_rfl) (by kernel_rfl) (by kernel_rfl) (fun _ _ _ h => h) (Or.inl ⟨by rfl, ?hyz51u5⟩) hHeld ?restz51u5
                  case hyz51u5 => (intro w hSw; (try dsimp only at hSw); go_simp; first | done | with_reducible rfl)
                  try simp only [Act.put, List.getElem_toArray, List.getElem_cons_zero, List.getElem_cons_succ, List.setIfInBounds_toArray, List.set_cons_zero, List.set_cons_succ]
                  refine wpAnyH_ready (rs := [5]) (by kernel_rfl) (by simp) ?_
                  refine AllReadyH.cons (o := _) rfl (fun K0 hK0 => ?_) AllReadyH.nil
                  go_simp
                  go_at_call 17
                  refine (C1.out _).mono ?_
                  rintro e wz51v6 ⟨rfl, bz51v6⟩
                  refine hK0.out _ _ (K.out _ (thenB (Below.refl _ _).drew bz51v6)) (fun hHeld => ?_)
                  clear hK0 K0
                  try simp only [Act.put, List.getElem_toArray, List.getElem_cons_zero, List.getElem_cons_succ, List.setIfInBounds_toArray, List.set_cons_zero, List.set_cons_succ]
                  refine wpAnyH_take (i := 6) (oi := _) (v := ?vz51u7) rfl (by kernel_rfl) (by kernel_rfl) (by kernel_rfl) (fun _ _ _ h => h) (Or.inl ⟨by rfl, ?hyz51u7⟩) hHeld ?restz51u7
                  case hyz51u7 => (intro w hSw; (try dsimp only at hSw); go_simp; first | done | with_reducible rfl)
                  try simp only [Act.put, List.getElem_toArray, List.getElem_cons_zero, List.getElem_cons_succ, List.setIfInBounds_toArray, List.set_cons_zero, List.set_cons_succ]
                  refine wpAnyH_take (i := 7) (oi := _) (v := undef) rfl (by kernel_rfl) (by kernel_rfl) (by kernel_rfl) (fun _ _ _ h => h) (Or.inr ⟨by rfl, rfl⟩) hHeld ?_
                  try simp only [Act.put, List.getElem_toArray, List.getElem_cons_zero, List.getElem_cons_succ, List.setIfInBounds_toArray, List.set_cons_zero, List.set_cons_succ]
                  refine wpAnyH_take (i := 8) (oi := _) (v := undef) rfl (by kernel_rfl) (by kernel_rfl) (by kernel_rfl) (fun _ _ _ h => h) (Or.inr ⟨by rfl, rfl⟩) hHeld ?_
                  try simp only [Act.put, List.getElem_toArray, List.getElem_cons_zero, List.getElem_cons_succ, List.setIfInBounds_toArray, List.set_cons_zero, List.set_cons_succ]
                  refine wpAnyH_take (i := 9) (oi := _) (v := undef) rfl (by kernel_rfl) (by kernel_rfl) (by kernel_rfl) (fun _ _ _ h => h) (Or.inr ⟨by rfl, rfl⟩) hHeld ?_
                  try simp only [Act.put, List.getElem_toArray, List.getElem_cons_zero, List.getElem_cons_succ, List.setIfInBounds_toArray, List.set_cons_zero, List.set_cons_succ]
                  refine wpAnyH_take (i := 10) (oi := _) (v := undef) rfl (by kernel_rfl) (by kernel_rfl) (by kernel_rfl) (fun _ _ _ h => h) (Or.inr ⟨by rfl, rfl⟩) hHeld ?_
                  try simp only [Act.put, List.getElem_toArray, List.getElem_cons_zero, List.getElem_cons_succ, List.setIfInBounds_toArray, List.set_cons_zero, List.set_cons_succ]
                  refine wpAnyH_take (i := 11) (oi := _) (v := undef) rfl (by kernel_rfl) (by kernel_rfl) (by kernel_rfl) (fun _ _ _ h => h) (Or.inr ⟨by rfl, rfl⟩) hHeld ?_
                  try simp only [Act.put, List.getElem_toArray, List.getElem_cons_zero, List.getElem_cons_succ, List.setIfInBounds_toArray, List.set_cons_zero, List.set_cons_succ]
                  refine wpAnyH_take (i := 12) (oi := _) (v := undef) rfl (by kernel_rfl) (by kernel_rfl) (by kernel_rfl) (fun _ _ _ h => h) (Or.inr ⟨by rfl, rfl⟩) hHeld ?_
                  try simp only [Act.put, List.getElem_toArray, List.getElem_cons_zero, List.getElem_cons_succ, List.setIfInBounds_toArray, List.set_cons_zero, List.set_cons_succ]
                  refine wpAnyH_take (i := 13) (oi := _) (v := ?vz51u8) rfl (by kernel_rfl) (by kernel_rfl) (by kernel_rfl) (fun _ _ _ h => h) (Or.inl ⟨by rfl, ?hyz51u8⟩) hHeld ?restz51u8
                  case hyz51u8 => (intro w hSw; (try dsimp only at hSw); go_simp; first | done | with_reducible rfl)
                  try simp only [Act.put, List.getElem_toArray, List.getElem_cons_zero, List.getElem_cons_succ, List.setIfInBounds_toArray, List.set_cons_zero, List.set_cons_succ]
                  refine wpAnyH_take (i := 14) (oi := _) (v := ?vz51u9) rfl (by kernel_rfl) (by kernel_rfl) (by kernel_rfl) (fun _ _ _ h => h) (Or.inl ⟨by rfl, ?hyz51u9⟩) hHeld ?restz51u9
                  case hyz51u9 => (intro w hSw; (try dsimp only at hSw); go_simp; first | done | with_reducible rfl)
                  try simp only [Act.put, List.getElem_toArray, List.getElem_cons_zero, List.getElem_cons_succ, List.setIfInBounds_toArray, List.set_cons_zero, List.set_cons_succ]
                  refine wpAnyH_done (by kernel_rfl) ?_ _
                  clear K hHeld
                  replace VA := VA.kept (thenB (Below.refl _ _).drew bz51v6)
                  replace VB := VB.kept (thenB (Below.refl _ _).drew bz51v6)
                  replace VM := VM.kept (thenB (Below.refl _ _).drew bz51v6)
                  replace RQ := RQ.kept (thenB (Below.refl _ _).drew bz51v6)
                  replace B := thenB B (thenB (Below.refl _ _).drew bz51v6)
                  have Sz51 := ((thenB (Below.refl _ _).drew bz51v6)).size
                  clear bz51v6
                  obtain ⟨s_VA, f_VA, z_VA⟩ := VA.open
                  obtain ⟨s_VB, f_VB, z_VB⟩ := VB.open
                  obtain ⟨s_VM, f_VM, z_VM⟩ := VM.open
                  have Bo := B
                  obtain ⟨q0, q1, q2, q3, q4, q5, q6⟩ := RdK.at RQ k (by omega) p hp9
                  have hb3 := World.block_lt_of_cell? (a := ⟨b3, o3 + k * 7, none⟩) _ q0
                  simp only at hb3
                  clear s_VA f_VA z_VA s_VB f_VB z_VB s_VM f_VM z_VM
                  have K : ∀ w' : World, Below wz51v6.heap.size wz51v6 w' → (w'.cell? ⟨w2.heap.size, 0, none⟩ = some (.int .i64 0) ∧ w'.cell? ⟨w2.heap.size, 1, none⟩ = some (.int .i64 z.a) ∧ w'.cell? ⟨w2.heap.size, 2, none⟩ = some (.int .i64 z.b) ∧ w'.cell? ⟨w2.heap.size, 3, none⟩ = some (.int .i64 z.c) ∧ w'.cell? ⟨w2.heap.size, 4, none⟩ = some (.int .i64 z.d) ∧ w'.cell? ⟨w2.heap.size, 5, none⟩ = some (.int .i64 z.e) ∧ w'.cell? ⟨w2.heap.size, 6, none⟩ = some (.int .i64 z.f) ∧ w'.cell? ⟨w2.heap.size, 7, none⟩ = some (.int .i64 z.g) ∧ w'.cell? ⟨w2.heap.size, 8, none⟩ = some (.int .i64 z.h) ∧ w'.cell? ⟨w2.heap.size, 9, none⟩ = some (.int .i64 z.r) ∧ w'.cell? ⟨b3, o3 + k * 7, none⟩ = some (.int .i64 p.f) ∧ w'.cell? ⟨b3, o3 + k * 7 + 1, none⟩ = some (.int .i64 p.t) ∧ w'.cell? ⟨b3, o3 + k * 7 + 2, none⟩ = some (.int .i64 p.r) ∧ w'.cell? ⟨b3, o3 + k * 7 + 3, none⟩ = some (.int .i64 p.l) ∧ w'.cell? ⟨b3, o3 + k * 7 + 4, none⟩ = some (.int .i64 p.u) ∧ w'.cell? ⟨b3, o3 + k * 7 + 5, none⟩ = some (.int .i64 p.v) ∧ w'.cell? ⟨b3, o3 + k * 7 + 6, none⟩ = some (.slice p.s p.m p.d)) := fun w' h => ⟨(VM.kept h).2.1 0 (by simp), (VM.kept h).2.1 1 (by simp), (VM.kept h).2.1 2 (by simp), (VM.kept h).2.1 3 (by simp), (VM.kept h).2.1 4 (by simp), (VM.kept h).2.1 5 (by simp), (VM.kept h).2.1 6 (by simp), (VM.kept h).2.1 7 (by simp), (VM.kept h).2.1 8 (by simp), (VM.kept h).2.1 9 (by simp), ((bcell h).1 _ _ hb3).trans q0, ((bcell h).1 _ _ hb3).trans q1, ((bcell h).1 _ _ hb3).trans q2, ((bcell h).1 _ _ hb3).trans q3, ((bcell h).1 _ _ hb3).trans q4, ((bcell h).1 _ _ hb3).trans q5, ((bcell h).1 _ _ hb3).trans q6⟩
                  have K := Hid.mk K
                  clear q0 q1 q2 q3 q4 q5 q6
                  go_wp2_with fail
                  refine wp_region_held_drew (S := (fun w' => w'.cell? ⟨w2.heap.size, 0, none⟩ = some (.int .i64 0) ∧ w'.cell? ⟨w2.heap.size, 1, none⟩ = some (.int .i64 z.a) ∧ w'.cell? ⟨w2.heap.size, 2, none⟩ = some (.int .i64 z.b) ∧ w'.cell? ⟨w2.heap.size, 3, none⟩ = some (.int .i64 z.c) ∧ w'.cell? ⟨w2.heap.size, 4, none⟩ = some (.int .i64 z.d) ∧ w'.cell? ⟨w2.heap.size, 5, none⟩ = some (.int .i64 z.e) ∧ w'.cell? ⟨w2.heap.size, 6, none⟩ = some (.int .i64 z.f) ∧ w'.cell? ⟨w2.heap.size, 7, none⟩ = some (.int .i64 z.g) ∧ w'.cell? ⟨w2.heap.size, 8, none⟩ = some (.int .i64 z.h) ∧ w'.cell? ⟨w2.heap.size, 9, none⟩ = some (.int .i64 z.r) ∧ w'.cell? ⟨b3, o3 + k * 7, none⟩ = some (.int .i64 p.f) ∧ w'.cell? ⟨b3, o3 + k * 7 + 1, none⟩ = some (.int .i64 p.t) ∧ w'.cell? ⟨b3, o3 + k * 7 + 2, none⟩ = some (.int .i64 p.r) ∧ w'.cell? ⟨b3, o3 + k * 7 + 3, none⟩ = some (.int .i64 p.l) ∧ w'.cell? ⟨b3, o3 + k * 7 + 4, none⟩ = some (.int .i64 p.u) ∧ w'.cell? ⟨b3, o3 + k * 7 + 5, none⟩ = some (.int .i64 p.v) ∧ w'.cell? ⟨b3, o3 + k * 7 + 6, none⟩ = some (.slice p.s p.m p.d))) (by kernel_rfl) (K.out _ (Below.refl _ _).drew) (fun hHeld => ?_)
                  refine wpAnyH_take (i := 0) (oi := _) (v := ?vz52u1) rfl (by kernel_rfl) (by kernel_rfl) (by kernel_rfl) (fun _ _ _ h => h) (Or.inl ⟨by rfl, ?hyz52u1⟩) hHeld ?restz52u1
                  case hyz52u1 => (intro w hSw; (try dsimp only at hSw); go_simp; first | done | with_reducible rfl)
                  try simp only [Act.put, List.getElem_toArray, List.getElem_cons_zero, List.setIfInBounds_toArray, List.set_cons_zero, List.set_cons_succ]
                  refine wpAnyH_take (i := 1) (oi := _) (v := ?vz52u2) rfl (by kernel_rfl) (by kernel_rfl) (by kernel_rfl) (fun _ _ _ h => h) (Or.inl ⟨by rfl, ?hyz52u2⟩) hHeld ?restz52u2
                  case hyz52u2 => (intro w hSw; (try dsimp only at hSw); go_simp; first | done | with_reducible rfl)
                  try simp only [Act.put, List.getElem_toArray, List.getElem_cons_zero, List.getElem_cons_succ, List.setIfInBounds_toArray, List.set_cons_zero, List.set_cons_succ]
                  refine wpAnyH_take (i := 2) (oi := _) (v := ?vz52u3) rfl (by kernel_rfl) (by kernel_rfl) (by kernel_rfl) (fun _ _ _ h => h) (Or.inl ⟨by rfl, ?hyz52u3⟩) hHeld ?restz52u3
                  case hyz52u3 => (intro w hSw; (try dsimp only at hSw); go_simp; first | done | with_reducible rfl)
                  try simp only [Act.put, List.getElem_toArray, List.getElem_cons_zero, List.getElem_cons_succ, List.setIfInBounds_toArray, List.set_cons_zero, List.set_cons_succ]
                  refine wpAnyH_take (i := 3) (oi := _) (v := ?vz52u4) rfl (by kernel_rfl) (by kernel_rfl) (by kernel_rfl) (fun _ _ _ h => h) (Or.inl ⟨by rfl, ?hyz52u4⟩) hHeld ?restz52u4
                  case hyz52u4 => (intro w hSw; (try dsimp only at hSw); go_simp; first | done | with_reducible rfl)
                  try simp only [Act.put, List.getElem_toArray, List.getElem_cons_zero, List.getElem_cons_succ, List.setIfInBounds_toArray, List.set_cons_zero, List.set_cons_succ]
                  refine wpAnyH_take (i := 4) (oi := _) (v := ?vz52u5) rfl (by kernel_rfl) (by kernel_rfl) (by kernel_rfl) (fun _ _ _ h => h) (Or.inl ⟨by rfl, ?hyz52u5⟩) hHeld ?restz52u5
                  case hyz52u5 => (intro w hSw; (try dsimp only at hSw); go_simp; first | done | with_reducible rfl)
                  try simp only [Act.put, List.getElem_toArray, List.getElem_cons_zero, List.getElem_cons_succ, List.setIfInBounds_toArray, List.set_cons_zero, List.set_cons_succ]
                  refine wpAnyH_take (i := 5) (oi := _) (v := ?vz52u6) rfl (by kernel_rfl) (by kernel_rfl) (by kernel_rfl) (fun _ _ _ h => h) (Or.inl ⟨by rfl, ?hyz52u6⟩) hHeld ?restz52u6
                  case hyz52u6 => (intro w hSw; (try dsimp only at hSw); go_simp; first | done | with_reducible rfl)
                  try simp only [Act.put, List.getElem_toArray, List.getElem_cons_zero, List.getElem_cons_succ, List.setIfInBounds_toArray, List.set_cons_zero, List.set_cons_succ]
                  refine wpAnyH_take (i := 6) (oi := _) (v := ?vz52u7) rfl (by kernel_rfl) (by kernel_rfl) (by kernel_rfl) (fun _ _ _ h => h) (Or.inl ⟨by rfl, ?hyz52u7⟩) hHeld ?restz52u7
                  case hyz52u7 => (intro w hSw; (try dsimp only at hSw); go_simp; first | done | with_reducible rfl)
                  try simp only [Act.put, List.getElem_toArray, List.getElem_cons_zero, List.getElem_cons_succ, List.setIfInBounds_toArray, List.set_cons_zero, List.set_cons_succ]
                  refine wpAnyH_take (i := 7) (oi := _) (v := ?vz52u8) rfl (by kernel_rfl) (by kernel_rfl) (by kernel_rfl) (fun _ _ _ h => h) (Or.inl ⟨by rfl, ?hyz52u8⟩) hHeld ?restz52u8
                  case hyz52u8 => (intro w hSw; (try dsimp only at hSw); go_simp; first | done | with_reducible rfl)
                  try simp only [Act.put, List.getElem_toArray, List.getElem_cons_zero, List.getElem_cons_succ, List.setIfInBounds_toArray, List.set_cons_zero, List.set_cons_succ]
                  refine wpAnyH_take (i := 8) (oi := _) (v := ?vz52u9) rfl (by kernel_rfl) (by kernel_rfl) (by kernel_rfl) (fun _ _ _ h => h) (Or.inl ⟨by rfl, ?hyz52u9⟩) hHeld ?restz52u9
                  case hyz52u9 => (intro w hSw; (try dsimp only at hSw); go_simp; first | done | with_reducible rfl)
                  try simp only [Act.put, List.getElem_toArray, List.getElem_cons_zero, List.getElem_cons_succ, List.setIfInBounds_toArray, List.set_cons_zero, List.set_cons_succ]
                  refine wpAnyH_take (i := 9) (oi := _) (v := ?vz52u10) rfl (by kernel_rfl) (by kernel_rfl) (by kernel_rfl) (fun _ _ _ h => h) (Or.inl ⟨by rfl, ?hyz52u10⟩) hHeld ?restz52u10
                  case hyz52u10 => (intro w hSw; (try dsimp only at hSw); go_simp; first | done | with_reducible rfl)
                  try simp only [Act.put, List.getElem_toArray, List.getElem_cons_zero, List.getElem_cons_succ, List.setIfInBounds_toArray, List.set_cons_zero, List.set_cons_succ]
                  refine wpAnyH_take (i := 10) (oi := _) (v := ?vz52u11) rfl (by kernel_rfl) (by kernel_rfl) (by kernel_rfl) (fun _ _ _ h => h) (Or.inl ⟨by rfl, ?hyz52u11⟩) hHeld ?restz52u11
                  case hyz52u11 => (intro w hSw; (try dsimp only at hSw); go_simp; first | done | with_reducible rfl)
                  try simp only [Act.put, List.getElem_toArray, List.getElem_cons_zero, List.getElem_cons_succ, List.setIfInBounds_toArray, List.set_cons_zero, List.set_cons_succ]
                  refine wpAnyH_ready (rs := [11]) (by kernel_rfl) (by simp) ?_
                  refine AllReadyH.cons (o := _) rfl (fun K0 hK0 => ?_) AllReadyH.nil
                  go_simp
                  go_at_call 17
                  refine (C3.out _).mono ?_
                  rintro e wz52v12 ⟨rfl, bz52v12⟩
                  refine hK0.out _ _ (K.out _ (thenB (Below.refl _ _).drew bz52v12)) (fun hHeld => ?_)
                  clear hK0 K0
                  try simp only [Act.put, List.getElem_toArray, List.getElem_cons_zero, List.getElem_cons_succ, List.setIfInBounds_toArray, List.set_cons_zero, List.set_cons_succ]
                  refine wpAnyH_take (i := 12) (oi := _) (v := ?vz52u13) rfl (by kernel_rfl) (by kernel_rfl) (by kernel_rfl) (fun _ _ _ h => h) (Or.inl ⟨by rfl, ?hyz52u13⟩) hHeld ?restz52u13
                  case hyz52u13 => (intro w hSw; (try dsimp only at hSw); go_simp; first | done | with_reducible rfl)
                  try simp only [Act.put, List.getElem_toArray, List.getElem_cons_zero, List.getElem_cons_succ, List.setIfInBounds_toArray, List.set_cons_zero, List.set_cons_succ]
                  refine wpAnyH_take (i := 13) (oi := _) (v := ?vz52u14) rfl (by kernel_rfl) (by kernel_rfl) (by kernel_rfl) (fun _ _ _ h => h) (Or.inl ⟨by rfl, ?hyz52u14⟩) hHeld ?restz52u14
                  case hyz52u14 => (intro w hSw; (try dsimp only at hSw); go_simp; first | done | with_reducible rfl)
                  try simp only [Act.put, List.getElem_toArray, List.getElem_cons_zero, List.getElem_cons_succ, List.setIfInBounds_toArray, List.set_cons_zero, List.set_cons_succ]
                  refine wpAnyH_done (by kernel_rfl) ?_ _
                  clear K hHeld
                  replace VA := VA.kept (thenB (Below.refl _ _).drew bz52v12)
                  replace VB := VB.kept (thenB (Below.refl _ _).drew bz52v12)
                  replace VM := VM.kept (thenB (Below.refl _ _).drew bz52v12)
                  replace RQ := RQ.kept (thenB (Below.refl _ _).drew bz52v12)
                  replace B := thenB B (thenB (Below.refl _ _).drew bz52v12)
                  have Sz52 := ((thenB (Below.refl _ _).drew bz52v12)).size
                  clear bz52v12
                  obtain ⟨s_VA, f_VA, z_VA⟩ := VA.open
                  obtain ⟨s_VB, f_VB, z_VB⟩ := VB.open
                  obtain ⟨s_VM, f_VM, z_VM⟩ := VM.open
                  have Bo := B
                  clear s_VA f_VA z_VA s_VB f_VB z_VB s_VM f_VM z_VM
                  replace VA := Hid.mk VA
                  replace VB := Hid.mk VB
                  replace VM := Hid.mk VM
                  replace RQ := Hid.mk RQ
                  replace B := Hid.mk Bo
                  clear Bo
                  go_wp2
                  go_roundw
                  case rel => exact ⟨k + 1, by omega, by go_num, VA.out, VB.out, VM.out, RQ.out, B.out⟩
                  case measure => simp [intOf]; omega
                · skip
                  rw [Bool.true_and] at E
                  subst E
                  have hnq : (t2 != t2) = false := by simp
                  clear s_VA f_VA z_VA s_VB f_VB z_VB s_VM f_VM z_VM
                  have K : ∀ w' : World, Below wr.heap.size wr w' → (w'.cell? ⟨w1.heap.size, 0, none⟩ = some (.int .i64 x.a) ∧ w'.cell? ⟨w1.heap.size, 1, none⟩ = some (.int .i64 x.b) ∧ w'.cell? ⟨w1.heap.size, 2, none⟩ = some (.int .i64 x.c) ∧ w'.cell? ⟨w1.heap.size, 3, none⟩ = some (.int .i64 x.d) ∧ w'.cell? ⟨w1.heap.size, 4, none⟩ = some (.int .i64 x.e) ∧ w'.cell? ⟨w1.heap.size, 5, none⟩ = some (.int .i64 x.f) ∧ w'.cell? ⟨w1.heap.size, 6, none⟩ = some (.int .i64 x.g) ∧ w'.cell? ⟨w1.heap.size, 7, none⟩ = some (.int .i64 x.h) ∧ w'.cell? ⟨w1.heap.size, 8, none⟩ = some (.int .i64 x.r) ∧ w'.cell? ⟨w1.heap.size + 1, 0, none⟩ = some (.int .i64 y.a) ∧ w'.cell? ⟨w1.heap.size + 1, 1, none⟩ = some (.int .i64 y.b) ∧ w'.cell? ⟨w1.heap.size + 1, 2, none⟩ = some (.int .i64 y.c) ∧ w'.cell? ⟨w1.heap.size + 1, 3, none⟩ = some (.int .i64 y.d) ∧ w'.cell? ⟨w1.heap.size + 1, 4, none⟩ = some (.int .i64 y.e) ∧ w'.cell? ⟨w1.heap.size + 1, 5, none⟩ = some (.int .i64 y.f) ∧ w'.cell? ⟨w1.heap.size + 1, 6, none⟩ = some (.int .i64 y.g) ∧ w'.cell? ⟨w1.heap.size + 1, 7, none⟩ = some (.int .i64 y.h) ∧ w'.cell? ⟨w1.heap.size + 1, 8, none⟩ = some (.int .i64 y.r) ∧ w'.cell? ⟨b3, o3 + k * 7, none⟩ = some (.int .i64 p.f) ∧ w'.cell? ⟨b3, o3 + k * 7 + 1, none⟩ = some (.int .i64 p.t) ∧ w'.cell? ⟨b3, o3 + k * 7 + 2, none⟩ = some (.int .i64 p.r) ∧ w'.cell? ⟨b3, o3 + k * 7 + 3, none⟩ = some (.int .i64 p.l) ∧ w'.cell? ⟨b3, o3 + k * 7 + 4, none⟩ = some (.int .i64 p.u) ∧ w'.cell? ⟨b3, o3 + k * 7 + 5, none⟩ = some (.int .i64 p.v) ∧ w'.cell? ⟨b3, o3 + k * 7 + 6, none⟩ = some (.slice p.s p.m p.d)) := fun w' h => ⟨(VA.kept h).2.1 0 (by simp), (VA.kept h).2.1 1 (by simp), (VA.kept h).2.1 2 (by simp), (VA.kept h).2.1 3 (by simp), (VA.kept h).2.1 4 (by simp), (VA.kept h).2.1 5 (by simp), (VA.kept h).2.1 6 (by simp), (VA.kept h).2.1 7 (by simp), (VA.kept h).2.1 8 (by simp), (VB.kept h).2.1 0 (by simp), (VB.kept h).2.1 1 (by simp), (VB.kept h).2.1 2 (by simp), (VB.kept h).2.1 3 (by simp), (VB.kept h).2.1 4 (by simp), (VB.kept h).2.1 5 (by simp), (VB.kept h).2.1 6 (by simp), (VB.kept h).2.1 7 (by simp), (VB.kept h).2.1 8 (by simp), ((bcell h).1 _ _ hb3).trans q0, ((bcell h).1 _ _ hb3).trans q1, ((bcell h).1 _ _ hb3).trans q2, ((bcell h).1 _ _ hb3).trans q3, ((bcell h).1 _ _ hb3).trans q4, ((bcell h).1 _ _ hb3).trans q5, ((bcell h).1 _ _ hb3).trans q6⟩
                  have K := Hid.mk K
                  clear q0 q1 q2 q3 q4 q5 q6
                  go_wp2_with fail
                  refine wp_region_held_drew (S := (fun w' => w'.cell? ⟨w1.heap.size, 0, none⟩ = some (.int .i64 x.a) ∧ w'.cell? ⟨w1.heap.size, 1, none⟩ = some (.int .i64 x.b) ∧ w'.cell? ⟨w1.heap.size, 2, none⟩ = some (.int .i64 x.c) ∧ w'.cell? ⟨w1.heap.size, 3, none⟩ = some (.int .i64 x.d) ∧ w'.cell? ⟨w1.heap.size, 4, none⟩ = some (.int .i64 x.e) ∧ w'.cell? ⟨w1.heap.size, 5, none⟩ = some (.int .i64 x.f) ∧ w'.cell? ⟨w1.heap.size, 6, none⟩ = some (.int .i64 x.g) ∧ w'.cell? ⟨w1.heap.size, 7, none⟩ = some (.int .i64 x.h) ∧ w'.cell? ⟨w1.heap.size, 8, none⟩ = some (.int .i64 x.r) ∧ w'.cell? ⟨w1.heap.size + 1, 0, none⟩ = some (.int .i64 y.a) ∧ w'.cell? ⟨w1.heap.size + 1, 1, none⟩ = some (.int .i64 y.b) ∧ w'.cell? ⟨w1.heap.size + 1, 2, none⟩ = some (.int .i64 y.c) ∧ w'.cell? ⟨w1.heap.size + 1, 3, none⟩ = some (.int .i64 y.d) ∧ w'.cell? ⟨w1.heap.size + 1, 4, none⟩ = some (.int .i64 y.e) ∧ w'.cell? ⟨w1.heap.size + 1, 5, none⟩ = some (.int .i64 y.f) ∧ w'.cell? ⟨w1.heap.size + 1, 6, none⟩ = some (.int .i64 y.g) ∧ w'.cell? ⟨w1.heap.size + 1, 7, none⟩ = some (.int .i64 y.h) ∧ w'.cell? ⟨w1.heap.size + 1, 8, none⟩ = some (.int .i64 y.r) ∧ w'.cell? ⟨b3, o3 + k * 7, none⟩ = some (.int .i64 p.f) ∧ w'.cell? ⟨b3, o3 + k * 7 + 1, none⟩ = some (.int .i64 p.t) ∧ w'.cell? ⟨b3, o3 + k * 7 + 2, none⟩ = some (.int .i64 p.r) ∧ w'.cell? ⟨b3, o3 + k * 7 + 3, none⟩ = some (.int .i64 p.l) ∧ w'.cell? ⟨b3, o3 + k * 7 + 4, none⟩ = some (.int .i64 p.u) ∧ w'.cell? ⟨b3, o3 + k * 7 + 5, none⟩ = some (.int .i64 p.v) ∧ w'.cell? ⟨b3, o3 + k * 7 + 6, none⟩ = some (.slice p.s p.m p.d))) (by kernel_rfl) (K.out _ (Below.refl _ _).drew) (fun hHeld => ?_)
                  refine wpAnyH_take (i := 0) (oi := _) (v := ?vz61u1) rfl (by kernel_rfl) (by kernel_rfl) (by kernel_rfl) (fun _ _ _ h => h) (Or.inl ⟨by rfl, ?hyz61u1⟩) hHeld ?restz61u1
                  case hyz61u1 => (intro w hSw; (try dsimp only at hSw); go_simp; first | done | with_reducible rfl)
                  try simp only [Act.put, List.getElem_toArray, List.getElem_cons_zero, List.setIfInBounds_toArray, List.set_cons_zero, List.set_cons_succ]
                  refine wpAnyH_take (i := 1) (oi := _) (v := ?vz61u2) rfl (by kernel_rfl) (by kernel_rfl) (by kernel_rfl) (fun _ _ _ h => h) (Or.inl ⟨by rfl, ?hyz61u2⟩) hHeld ?restz61u2
                  case hyz61u2 => (intro w hSw; (try dsimp only at hSw); go_simp; first | done | with_reducible rfl)
                  try simp only [Act.put, List.getElem_toArray, List.getElem_cons_zero, List.getElem_cons_succ, List.setIfInBounds_toArray, List.set_cons_zero, List.set_cons_succ]
                  refine wpAnyH_take (i := 2) (oi := _) (v := ?vz61u3) rfl (by kernel_rfl) (by kernel_rfl) (by kernel_rfl) (fun _ _ _ h => h) (Or.inl ⟨by rfl, ?hyz61u3⟩) hHeld ?restz61u3
                  case hyz61u3 => (intro w hSw; (try dsimp only at hSw); go_simp; first | done | with_reducible rfl)
                  try simp only [Act.put, List.getElem_toArray, List.getElem_cons_zero, List.getElem_cons_succ, List.setIfInBounds_toArray, List.set_cons_zero, List.set_cons_succ]
                  refine wpAnyH_take (i := 3) (oi := _) (v := ?vz61u4) rfl (by kernel_rfl) (by kernel_rfl) (by kernel_rfl) (fun _ _ _ h => h) (Or.inl ⟨by rfl, ?hyz61u4⟩) hHeld ?restz61u4
                  case hyz61u4 => (intro w hSw; (try dsimp only at hSw); go_simp; first | done | with_reducible rfl)
                  try simp only [Act.put, List.getElem_toArray, List.getElem_cons_zero, List.getElem_cons_succ, List.setIfInBounds_toArray, List.set_cons_zero, List.set_cons_succ]
                  refine wpAnyH_take (i := 4) (oi := _) (v := ?vz61u5) rfl (by kernel_rfl) (by kernel_rfl) (by kernel_rfl) (fun _ _ _ h => h) (Or.inl ⟨by rfl, ?hyz61u5⟩) hHeld ?restz61u5
                  case hyz61u5 => (intro w hSw; (try dsimp only at hSw); go_simp; first | done | with_reducible rfl)
                  try simp only [Act.put, List.getElem_toArray, List.getElem_cons_zero, List.getElem_cons_succ, List.setIfInBounds_toArray, List.set_cons_zero, List.set_cons_succ]
                  refine wpAnyH_ready (rs := [5]) (by kernel_rfl) (by simp) ?_
                  refine AllReadyH.cons (o := _) rfl (fun K0 hK0 => ?_) AllReadyH.nil
                  go_simp
                  go_at_call 17
                  refine (C1.out _).mono ?_
                  rintro e wz61v6 ⟨rfl, bz61v6⟩
                  refine hK0.out _ _ (K.out _ (thenB (Below.refl _ _).drew bz61v6)) (fun hHeld => ?_)
                  clear hK0 K0
                  try simp only [Act.put, List.getElem_toArray, List.getElem_cons_zero, List.getElem_cons_succ, List.setIfInBounds_toArray, List.set_cons_zero, List.set_cons_succ]
                  refine wpAnyH_take (i := 6) (oi := _) (v := ?vz61u7) rfl (by kernel_rfl) (by kernel_rfl) (by kernel_rfl) (fun _ _ _ h => h) (Or.inl ⟨by rfl, ?hyz61u7⟩) hHeld ?restz61u7
                  case hyz61u7 => (intro w hSw; (try dsimp only at hSw); go_simp; first | done | with_reducible rfl)
                  try simp only [Act.put, List.getElem_toArray, List.getElem_cons_zero, List.getElem_cons_succ, List.setIfInBounds_toArray, List.set_cons_zero, List.set_cons_succ]
                  refine wpAnyH_take (i := 7) (oi := _) (v := ?vz61u8) rfl (by kernel_rfl) (by kernel_rfl) (by kernel_rfl) (fun _ _ _ h => h) (Or.inl ⟨by rfl, ?hyz61u8⟩) hHeld ?restz61u8
                  case hyz61u8 => (intro w hSw; (try dsimp only at hSw); go_simp; first | done | with_reducible rfl)
                  try simp only [Act.put, List.getElem_toArray, List.getElem_cons_zero, List.getElem_cons_succ, List.setIfInBounds_toArray, List.set_cons_zero, List.set_cons_succ]
                  refine wpAnyH_take (i := 8) (oi := _) (v := ?vz61u9) rfl (by kernel_rfl) (by kernel_rfl) (by kernel_rfl) (fun _ _ _ h => h) (Or.inl ⟨by rfl, ?hyz61u9⟩) hHeld ?restz61u9
                  case hyz61u9 => (intro w hSw; (try dsimp only at hSw); go_simp; first | done | with_reducible rfl)
                  try simp only [Act.put, List.getElem_toArray, List.getElem_cons_zero, List.getElem_cons_succ, List.setIfInBounds_toArray, List.set_cons_zero, List.set_cons_succ]
                  refine wpAnyH_take (i := 9) (oi := _) (v := ?vz61u10) rfl (by kernel_rfl) (by kernel_rfl) (by kernel_rfl) (fun _ _ _ h => h) (Or.inl ⟨by rfl, ?hyz61u10⟩) hHeld ?restz61u10
                  case hyz61u10 => (intro w hSw; (try dsimp only at hSw); go_simp; first | done | with_reducible rfl)
                  try simp only [Act.put, List.getElem_toArray, List.getElem_cons_zero, List.getElem_cons_succ, List.setIfInBounds_toArray, List.set_cons_zero, List.set_cons_succ]
                  refine wpAnyH_take (i := 10) (oi := _) (v := ?vz61u11) rfl (by kernel_rfl) (by kernel_rfl) (by kernel_rfl) (fun _ _ _ h => h) (Or.inl ⟨by rfl, ?hyz61u11⟩) hHeld ?restz61u11
                  case hyz61u11 => (intro w hSw; (try dsimp only at hSw); go_simp; first | done | with_reducible rfl)
                  try simp only [Act.put, List.getElem_toArray, List.getElem_cons_zero, List.getElem_cons_succ, List.setIfInBounds_toArray, List.set_cons_zero, List.set_cons_succ]
                  refine wpAnyH_take (i := 11) (oi := _) (v := ?vz61u12) rfl (by kernel_rfl) (by kernel_rfl) (by kernel_rfl) (fun _ _ _ h => h) (Or.inl ⟨by rfl, ?hyz61u12⟩) hHeld ?restz61u12
                  case hyz61u12 => (intro w hSw; (try dsimp only at hSw); go_simp; first | done | with_reducible rfl)
                  try simp only [Act.put, List.getElem_toArray, List.getElem_cons_zero, List.getElem_cons_succ, List.setIfInBounds_toArray, List.set_cons_zero, List.set_cons_succ]
                  refine wpAnyH_ready (rs := [12]) (by kernel_rfl) (by simp) ?_
                  refine AllReadyH.cons (o := _) rfl (fun K0 hK0 => ?_) AllReadyH.nil
                  go_simp
                  go_at_call 17
                  refine (C2.out _).mono ?_
                  rintro e wz61v13 ⟨rfl, bz61v13⟩
                  refine hK0.out _ _ (K.out _ (thenB (thenB (Below.refl _ _).drew bz61v6) bz61v13)) (fun hHeld => ?_)
                  clear hK0 K0
                  try simp only [Act.put, List.getElem_toArray, List.getElem_cons_zero, List.getElem_cons_succ, List.setIfInBounds_toArray, List.set_cons_zero, List.set_cons_succ]
                  refine wpAnyH_take (i := 13) (oi := _) (v := ?vz61u14) rfl (by kernel_rfl) (by kernel_rfl) (by kernel_rfl) (fun _ _ _ h => h) (Or.inl ⟨by rfl, ?hyz61u14⟩) hHeld ?restz61u14
                  case hyz61u14 => (intro w hSw; (try dsimp only at hSw); go_simp; first | done | with_reducible rfl)
                  try simp only [Act.put, List.getElem_toArray, List.getElem_cons_zero, List.getElem_cons_succ, List.setIfInBounds_toArray, List.set_cons_zero, List.set_cons_succ]
                  refine wpAnyH_take (i := 14) (oi := _) (v := ?vz61u15) rfl (by kernel_rfl) (by kernel_rfl) (by kernel_rfl) (fun _ _ _ h => h) (Or.inl ⟨by rfl, ?hyz61u15⟩) hHeld ?restz61u15
                  case hyz61u15 => (intro w hSw; (try dsimp only at hSw); go_simp; first | done | with_reducible rfl)
                  try simp only [Act.put, List.getElem_toArray, List.getElem_cons_zero, List.getElem_cons_succ, List.setIfInBounds_toArray, List.set_cons_zero, List.set_cons_succ]
                  refine wpAnyH_done (by kernel_rfl) ?_ _
                  clear K hHeld
                  replace VA := VA.kept (thenB (thenB (Below.refl _ _).drew bz61v6) bz61v13)
                  replace VB := VB.kept (thenB (thenB (Below.refl _ _).drew bz61v6) bz61v13)
                  replace VM := VM.kept (thenB (thenB (Below.refl _ _).drew bz61v6) bz61v13)
                  replace RQ := RQ.kept (thenB (thenB (Below.refl _ _).drew bz61v6) bz61v13)
                  replace B := thenB B (thenB (thenB (Below.refl _ _).drew bz61v6) bz61v13)
                  have Sz61 := ((thenB (thenB (Below.refl _ _).drew bz61v6) bz61v13)).size
                  clear bz61v6 bz61v13
                  obtain ⟨s_VA, f_VA, z_VA⟩ := VA.open
                  obtain ⟨s_VB, f_VB, z_VB⟩ := VB.open
                  obtain ⟨s_VM, f_VM, z_VM⟩ := VM.open
                  have Bo := B
                  obtain ⟨q0, q1, q2, q3, q4, q5, q6⟩ := RdK.at RQ k (by omega) p hp9
                  have hb3 := World.block_lt_of_cell? (a := ⟨b3, o3 + k * 7, none⟩) _ q0
                  simp only at hb3
                  clear s_VA f_VA z_VA s_VB f_VB z_VB s_VM f_VM z_VM
                  have K : ∀ w' : World, Below wz61v13.heap.size wz61v13 w' → (w'.cell? ⟨w2.heap.size, 0, none⟩ = some (.int .i64 0) ∧ w'.cell? ⟨w2.heap.size, 1, none⟩ = some (.int .i64 z.a) ∧ w'.cell? ⟨w2.heap.size, 2, none⟩ = some (.int .i64 z.b) ∧ w'.cell? ⟨w2.heap.size, 3, none⟩ = some (.int .i64 z.c) ∧ w'.cell? ⟨w2.heap.size, 4, none⟩ = some (.int .i64 z.d) ∧ w'.cell? ⟨w2.heap.size, 5, none⟩ = some (.int .i64 z.e) ∧ w'.cell? ⟨w2.heap.size, 6, none⟩ = some (.int .i64 z.f) ∧ w'.cell? ⟨w2.heap.size, 7, none⟩ = some (.int .i64 z.g) ∧ w'.cell? ⟨w2.heap.size, 8, none⟩ = some (.int .i64 z.h) ∧ w'.cell? ⟨w2.heap.size, 9, none⟩ = some (.int .i64 z.r) ∧ w'.cell? ⟨b3, o3 + k * 7, none⟩ = some (.int .i64 p.f) ∧ w'.cell? ⟨b3, o3 + k * 7 + 1, none⟩ = some (.int .i64 p.t) ∧ w'.cell? ⟨b3, o3 + k * 7 + 2, none⟩ = some (.int .i64 p.r) ∧ w'.cell? ⟨b3, o3 + k * 7 + 3, none⟩ = some (.int .i64 p.l) ∧ w'.cell? ⟨b3, o3 + k * 7 + 4, none⟩ = some (.int .i64 p.u) ∧ w'.cell? ⟨b3, o3 + k * 7 + 5, none⟩ = some (.int .i64 p.v) ∧ w'.cell? ⟨b3, o3 + k * 7 + 6, none⟩ = some (.slice p.s p.m p.d)) := fun w' h => ⟨(VM.kept h).2.1 0 (by simp), (VM.kept h).2.1 1 (by simp), (VM.kept h).2.1 2 (by simp), (VM.kept h).2.1 3 (by simp), (VM.kept h).2.1 4 (by simp), (VM.kept h).2.1 5 (by simp), (VM.kept h).2.1 6 (by simp), (VM.kept h).2.1 7 (by simp), (VM.kept h).2.1 8 (by simp), (VM.kept h).2.1 9 (by simp), ((bcell h).1 _ _ hb3).trans q0, ((bcell h).1 _ _ hb3).trans q1, ((bcell h).1 _ _ hb3).trans q2, ((bcell h).1 _ _ hb3).trans q3, ((bcell h).1 _ _ hb3).trans q4, ((bcell h).1 _ _ hb3).trans q5, ((bcell h).1 _ _ hb3).trans q6⟩
                  have K := Hid.mk K
                  clear q0 q1 q2 q3 q4 q5 q6
                  go_wp2_with fail
                  refine wp_region_held_drew (S := (fun w' => w'.cell? ⟨w2.heap.size, 0, none⟩ = some (.int .i64 0) ∧ w'.cell? ⟨w2.heap.size, 1, none⟩ = some (.int .i64 z.a) ∧ w'.cell? ⟨w2.heap.size, 2, none⟩ = some (.int .i64 z.b) ∧ w'.cell? ⟨w2.heap.size, 3, none⟩ = some (.int .i64 z.c) ∧ w'.cell? ⟨w2.heap.size, 4, none⟩ = some (.int .i64 z.d) ∧ w'.cell? ⟨w2.heap.size, 5, none⟩ = some (.int .i64 z.e) ∧ w'.cell? ⟨w2.heap.size, 6, none⟩ = some (.int .i64 z.f) ∧ w'.cell? ⟨w2.heap.size, 7, none⟩ = some (.int .i64 z.g) ∧ w'.cell? ⟨w2.heap.size, 8, none⟩ = some (.int .i64 z.h) ∧ w'.cell? ⟨w2.heap.size, 9, none⟩ = some (.int .i64 z.r) ∧ w'.cell? ⟨b3, o3 + k * 7, none⟩ = some (.int .i64 p.f) ∧ w'.cell? ⟨b3, o3 + k * 7 + 1, none⟩ = some (.int .i64 p.t) ∧ w'.cell? ⟨b3, o3 + k * 7 + 2, none⟩ = some (.int .i64 p.r) ∧ w'.cell? ⟨b3, o3 + k * 7 + 3, none⟩ = some (.int .i64 p.l) ∧ w'.cell? ⟨b3, o3 + k * 7 + 4, none⟩ = some (.int .i64 p.u) ∧ w'.cell? ⟨b3, o3 + k * 7 + 5, none⟩ = some (.int .i64 p.v) ∧ w'.cell? ⟨b3, o3 + k * 7 + 6, none⟩ = some (.slice p.s p.m p.d))) (by kernel_rfl) (K.out _ (Below.refl _ _).drew) (fun hHeld => ?_)
                  refine wpAnyH_take (i := 0) (oi := _) (v := ?vz62u1) rfl (by kernel_rfl) (by kernel_rfl) (by kernel_rfl) (fun _ _ _ h => h) (Or.inl ⟨by rfl, ?hyz62u1⟩) hHeld ?restz62u1
                  case hyz62u1 => (intro w hSw; (try dsimp only at hSw); go_simp; first | done | with_reducible rfl)
                  try simp only [Act.put, List.getElem_toArray, List.getElem_cons_zero, List.setIfInBounds_toArray, List.set_cons_zero, List.set_cons_succ]
                  refine wpAnyH_take (i := 1) (oi := _) (v := ?vz62u2) rfl (by kernel_rfl) (by kernel_rfl) (by kernel_rfl) (fun _ _ _ h => h) (Or.inl ⟨by rfl, ?hyz62u2⟩) hHeld ?restz62u2
                  case hyz62u2 => (intro w hSw; (try dsimp only at hSw); go_simp; first | done | with_reducible rfl)
                  try simp only [Act.put, List.getElem_toArray, List.getElem_cons_zero, List.getElem_cons_succ, List.setIfInBounds_toArray, List.set_cons_zero, List.set_cons_succ]
                  refine wpAnyH_take (i := 2) (oi := _) (v := ?vz62u3) rfl (by kernel_rfl) (by kernel_rfl) (by kernel_rfl) (fun _ _ _ h => h) (Or.inl ⟨by rfl, ?hyz62u3⟩) hHeld ?restz62u3
                  case hyz62u3 => (intro w hSw; (try dsimp only at hSw); go_simp; first | done | with_reducible rfl)
                  try simp only [Act.put, List.getElem_toArray, List.getElem_cons_zero, List.getElem_cons_succ, List.setIfInBounds_toArray, List.set_cons_zero, List.set_cons_succ]
                  refine wpAnyH_take (i := 3) (oi := _) (v := ?vz62u4) rfl (by kernel_rfl) (by kernel_rfl) (by kernel_rfl) (fun _ _ _ h => h) (Or.inl ⟨by rfl, ?hyz62u4⟩) hHeld ?restz62u4
                  case hyz62u4 => (intro w hSw; (try dsimp only at hSw); go_simp; first | done | with_reducible rfl)
                  try simp only [Act.put, List.getElem_toArray, List.getElem_cons_zero, List.getElem_cons_succ, List.setIfInBounds_toArray, List.set_cons_zero, List.set_cons_succ]
                  refine wpAnyH_take (i := 4) (oi := _) (v := ?vz62u5) rfl (by kernel_rfl) (by kernel_rfl) (by kernel_rfl) (fun _ _ _ h => h) (Or.inl ⟨by rfl, ?hyz62u5⟩) hHeld ?restz62u5
                  case hyz62u5 => (intro w hSw; (try dsimp only at hSw); go_simp; first | done | with_reducible rfl)
                  try simp only [Act.put, List.getElem_toArray, List.getElem_cons_zero, List.getElem_cons_succ, List.setIfInBounds_toArray, List.set_cons_zero, List.set_cons_succ]
                  refine wpAnyH_take (i := 5) (oi := _) (v := ?vz62u6) rfl (by kernel_rfl) (by kernel_rfl) (by kernel_rfl) (fun _ _ _ h => h) (Or.inl ⟨by rfl, ?hyz62u6⟩) hHeld ?restz62u6
                  case hyz62u6 => (intro w hSw; (try dsimp only at hSw); go_simp; first | done | with_reducible rfl)
                  try simp only [Act.put, List.getElem_toArray, List.getElem_cons_zero, List.getElem_cons_succ, List.setIfInBounds_toArray, List.set_cons_zero, List.set_cons_succ]
                  refine wpAnyH_take (i := 6) (oi := _) (v := ?vz62u7) rfl (by kernel_rfl) (by kernel_rfl) (by kernel_rfl) (fun _ _ _ h => h) (Or.inl ⟨by rfl, ?hyz62u7⟩) hHeld ?restz62u7
                  case hyz62u7 => (intro w hSw; (try dsimp only at hSw); go_simp; first | done | with_reducible rfl)
                  try simp only [Act.put, List.getElem_toArray, List.getElem_cons_zero, List.getElem_cons_succ, List.setIfInBounds_toArray, List.set_cons_zero, List.set_cons_succ]
                  refine wpAnyH_take (i := 7) (oi := _) (v := ?vz62u8) rfl (by kernel_rfl) (by kernel_rfl) (by kernel_rfl) (fun _ _ _ h => h) (Or.inl ⟨by rfl, ?hyz62u8⟩) hHeld ?restz62u8
                  case hyz62u8 => (intro w hSw; (try dsimp only at hSw); go_simp; first | done | with_reducible rfl)
                  try simp only [Act.put, List.getElem_toArray, List.getElem_cons_zero, List.getElem_cons_succ, List.setIfInBounds_toArray, List.set_cons_zero, List.set_cons_succ]
                  refine wpAnyH_take (i := 8) (oi := _) (v := ?vz62u9) rfl (by kernel_rfl) (by kernel_rfl) (by kernel_rfl) (fun _ _ _ h => h) (Or.inl ⟨by rfl, ?hyz62u9⟩) hHeld ?restz62u9
                  case hyz62u9 => (intro w hSw; (try dsimp only at hSw); go_simp; first | done | with_reducible rfl)
                  try simp only [Act.put, List.getElem_toArray, List.getElem_cons_zero, List.getElem_cons_succ, List.setIfInBounds_toArray, List.set_cons_zero, List.set_cons_succ]
                  refine wpAnyH_take (i := 9) (oi := _) (v := ?vz62u10) rfl (by kernel_rfl) (by kernel_rfl) (by kernel_rfl) (fun _ _ _ h => h) (Or.inl ⟨by rfl, ?hyz62u10⟩) hHeld ?restz62u10
                  case hyz62u10 => (intro w hSw; (try dsimp only at hSw); go_simp; first | done | with_reducible rfl)
                  try simp only [Act.put, List.getElem_toArray, List.getElem_cons_zero, List.getElem_cons_succ, List.setIfInBounds_toArray, List.set_cons_zero, List.set_cons_succ]
                  refine wpAnyH_take (i := 10) (oi := _) (v := ?vz62u11) rfl (by kernel_rfl) (by kernel_rfl) (by kernel_rfl) (fun _ _ _ h => h) (Or.inl ⟨by rfl, ?hyz62u11⟩) hHeld ?restz62u11
                  case hyz62u11 => (intro w hSw; (try dsimp only at hSw); go_simp; first | done | with_reducible rfl)
                  try simp only [Act.put, List.getElem_toArray, List.getElem_cons_zero, List.getElem_cons_succ, List.setIfInBounds_toArray, List.set_cons_zero, List.set_cons_succ]
                  refine wpAnyH_ready (rs := [11]) (by kernel_rfl) (by simp) ?_
                  refine AllReadyH.cons (o := _) rfl (fun K0 hK0 => ?_) AllReadyH.nil
                  go_simp
                  go_at_call 17
                  refine (C3.out _).mono ?_
                  rintro e wz62v12 ⟨rfl, bz62v12⟩
                  refine hK0.out _ _ (K.out _ (thenB (Below.refl _ _).drew bz62v12)) (fun hHeld => ?_)
                  clear hK0 K0
                  try simp only [Act.put, List.getElem_toArray, List.getElem_cons_zero, List.getElem_cons_succ, List.setIfInBounds_toArray, List.set_cons_zero, List.set_cons_succ]
                  refine wpAnyH_take (i := 12) (oi := _) (v := ?vz62u13) rfl (by kernel_rfl) (by kernel_rfl) (by kernel_rfl) (fun _ _ _ h => h) (Or.inl ⟨by rfl, ?hyz62u13⟩) hHeld ?restz62u13
                  case hyz62u13 => (intro w hSw; (try dsimp only at hSw); go_simp; first | done | with_reducible rfl)
                  try simp only [Act.put, List.getElem_toArray, List.getElem_cons_zero, List.getElem_cons_succ, List.setIfInBounds_toArray, List.set_cons_zero, List.set_cons_succ]
                  refine wpAnyH_take (i := 13) (oi := _) (v := ?vz62u14) rfl (by kernel_rfl) (by kernel_rfl) (by kernel_rfl) (fun _ _ _ h => h) (Or.inl ⟨by rfl, ?hyz62u14⟩) hHeld ?restz62u14
                  case hyz62u14 => (intro w hSw; (try dsimp only at hSw); go_simp; first | done | with_reducible rfl)
                  try simp only [Act.put, List.getElem_toArray, List.getElem_cons_zero, List.getElem_cons_succ, List.setIfInBounds_toArray, List.set_cons_zero, List.set_cons_succ]
                  refine wpAnyH_done (by kernel_rfl) ?_ _
                  clear K hHeld
                  replace VA := VA.kept (thenB (Below.refl _ _).drew bz62v12)
                  replace VB := VB.kept (thenB (Below.refl _ _).drew bz62v12)
                  replace VM := VM.kept (thenB (Below.refl _ _).drew bz62v12)
                  replace RQ := RQ.kept (thenB (Below.refl _ _).drew bz62v12)
                  replace B := thenB B (thenB (Below.refl _ _).drew bz62v12)
                  have Sz62 := ((thenB (Below.refl _ _).drew bz62v12)).size
                  clear bz62v12
                  obtain ⟨s_VA, f_VA, z_VA⟩ := VA.open
                  obtain ⟨s_VB, f_VB, z_VB⟩ := VB.open
                  obtain ⟨s_VM, f_VM, z_VM⟩ := VM.open
                  have Bo := B
                  clear s_VA f_VA z_VA s_VB f_VB z_VB s_VM f_VM z_VM
                  replace VA := Hid.mk VA
                  replace VB := Hid.mk VB
                  replace VM := Hid.mk VM
                  replace RQ := Hid.mk RQ
                  replace B := Hid.mk Bo
                  clear Bo
                  go_wp2
                  go_roundw
                  case rel => exact ⟨k + 1, by omega, by go_num, VA.out, VB.out, VM.out, RQ.out, B.out⟩
                  case measure => simp [intOf]; omega
              · skip
                obtain rfl : k = 4 := by omega
                have C1 := Hid.mk (CA.out ⟨x.a, x.c, r1, 64, x.e, x.g, none, 0, 0⟩)
                rw [hsa.out] at C1
                have hkk : ((0 : Int) == 0) = true := by simp
                obtain ⟨s_VA, f_VA, z_VA⟩ := VA.open
                obtain ⟨s_VB, f_VB, z_VB⟩ := VB.open
                obtain ⟨s_VM, f_VM, z_VM⟩ := VM.open
                have Bo := B
                obtain ⟨q0, q1, q2, q3, q4, q5, q6⟩ := RdK.at RQ 1 (by omega) _ hp1
                dsimp only at q0 q1 q2 q3 q4 q5 q6
                simp only [Nat.reduceMul] at q0 q1 q2 q3 q4 q5 q6
                have hb3 := World.block_lt_of_cell? (a := ⟨b3, o3 + 7, none⟩) _ q0
                simp only at hb3
                clear s_VA f_VA z_VA s_VB f_VB z_VB s_VM f_VM z_VM
                have K : ∀ w' : World, Below wr.heap.size wr w' → (w'.cell? ⟨w1.heap.size, 0, none⟩ = some (.int .i64 x.a) ∧ w'.cell? ⟨w1.heap.size, 1, none⟩ = some (.int .i64 x.b) ∧ w'.cell? ⟨w1.heap.size, 2, none⟩ = some (.int .i64 x.c) ∧ w'.cell? ⟨w1.heap.size, 3, none⟩ = some (.int .i64 x.d) ∧ w'.cell? ⟨w1.heap.size, 4, none⟩ = some (.int .i64 x.e) ∧ w'.cell? ⟨w1.heap.size, 5, none⟩ = some (.int .i64 x.f) ∧ w'.cell? ⟨w1.heap.size, 6, none⟩ = some (.int .i64 x.g) ∧ w'.cell? ⟨w1.heap.size, 7, none⟩ = some (.int .i64 x.h) ∧ w'.cell? ⟨w1.heap.size, 8, none⟩ = some (.int .i64 x.r) ∧ w'.cell? ⟨w1.heap.size + 1, 0, none⟩ = some (.int .i64 y.a) ∧ w'.cell? ⟨w1.heap.size + 1, 1, none⟩ = some (.int .i64 y.b) ∧ w'.cell? ⟨w1.heap.size + 1, 2, none⟩ = some (.int .i64 y.c) ∧ w'.cell? ⟨w1.heap.size + 1, 3, none⟩ = some (.int .i64 y.d) ∧ w'.cell? ⟨w1.heap.size + 1, 4, none⟩ = some (.int .i64 y.e) ∧ w'.cell? ⟨w1.heap.size + 1, 5, none⟩ = some (.int .i64 y.f) ∧ w'.cell? ⟨w1.heap.size + 1, 6, none⟩ = some (.int .i64 y.g) ∧ w'.cell? ⟨w1.heap.size + 1, 7, none⟩ = some (.int .i64 y.h) ∧ w'.cell? ⟨w1.heap.size + 1, 8, none⟩ = some (.int .i64 y.r) ∧ w'.cell? ⟨w2.heap.size, 0, none⟩ = some (.int .i64 0) ∧ w'.cell? ⟨w2.heap.size, 1, none⟩ = some (.int .i64 z.a) ∧ w'.cell? ⟨w2.heap.size, 2, none⟩ = some (.int .i64 z.b) ∧ w'.cell? ⟨w2.heap.size, 3, none⟩ = some (.int .i64 z.c) ∧ w'.cell? ⟨w2.heap.size, 4, none⟩ = some (.int .i64 z.d) ∧ w'.cell? ⟨w2.heap.size, 5, none⟩ = some (.int .i64 z.e) ∧ w'.cell? ⟨w2.heap.size, 6, none⟩ = some (.int .i64 z.f) ∧ w'.cell? ⟨w2.heap.size, 7, none⟩ = some (.int .i64 z.g) ∧ w'.cell? ⟨w2.heap.size, 8, none⟩ = some (.int .i64 z.h) ∧ w'.cell? ⟨w2.heap.size, 9, none⟩ = some (.int .i64 z.r) ∧ w'.cell? ⟨b3, o3 + 7, none⟩ = some (.int .i64 x.a) ∧ w'.cell? ⟨b3, o3 + 7 + 1, none⟩ = some (.int .i64 x.c) ∧ w'.cell? ⟨b3, o3 + 7 + 2, none⟩ = some (.int .i64 r1) ∧ w'.cell? ⟨b3, o3 + 7 + 3, none⟩ = some (.int .i64 64) ∧ w'.cell? ⟨b3, o3 + 7 + 4, none⟩ = some (.int .i64 x.e) ∧ w'.cell? ⟨b3, o3 + 7 + 5, none⟩ = some (.int .i64 x.g) ∧ w'.cell? ⟨b3, o3 + 7 + 6, none⟩ = some (.slice none 0 0)) := fun w' h => ⟨(VA.kept h).2.1 0 (by simp), (VA.kept h).2.1 1 (by simp), (VA.kept h).2.1 2 (by simp), (VA.kept h).2.1 3 (by simp), (VA.kept h).2.1 4 (by simp), (VA.kept h).2.1 5 (by simp), (VA.kept h).2.1 6 (by simp), (VA.kept h).2.1 7 (by simp), (VA.kept h).2.1 8 (by simp), (VB.kept h).2.1 0 (by simp), (VB.kept h).2.1 1 (by simp), (VB.kept h).2.1 2 (by simp), (VB.kept h).2.1 3 (by simp), (VB.kept h).2.1 4 (by simp), (VB.kept h).2.1 5 (by simp), (VB.kept h).2.1 6 (by simp), (VB.kept h).2.1 7 (by simp), (VB.kept h).2.1 8 (by simp), (VM.kept h).2.1 0 (by simp), (VM.kept h).2.1 1 (by simp), (VM.kept h).2.1 2 (by simp), (VM.kept h).2.1 3 (by simp), (VM.kept h).2.1 4 (by simp), (VM.kept h).2.1 5 (by simp), (VM.kept h).2.1 6 (by simp), (VM.kept h).2.1 7 (by simp), (VM.kept h).2.1 8 (by simp), (VM.kept h).2.1 9 (by simp), ((bcell h).1 _ _ hb3).trans q0, ((bcell h).1 _ _ hb3).trans q1, ((bcell h).1 _ _ hb3).trans q2, ((bcell h).1 _ _ hb3).trans q3, ((bcell h).1 _ _ hb3).trans q4, ((bcell h).1 _ _ hb3).trans q5, ((bcell h).1 _ _ hb3).trans q6⟩
                have K := Hid.mk K
                clear q0 q1 q2 q3 q4 q5 q6
                go_wp2_with fail
                refine wp_region_held_drew (S := (fun w' => w'.cell? ⟨w1.heap.size, 0, none⟩ = some (.int .i64 x.a) ∧ w'.cell? ⟨w1.heap.size, 1, none⟩ = some (.int .i64 x.b) ∧ w'.cell? ⟨w1.heap.size, 2, none⟩ = some (.int .i64 x.c) ∧ w'.cell? ⟨w1.heap.size, 3, none⟩ = some (.int .i64 x.d) ∧ w'.cell? ⟨w1.heap.size, 4, none⟩ = some (.int .i64 x.e) ∧ w'.cell? ⟨w1.heap.size, 5, none⟩ = some (.int .i64 x.f) ∧ w'.cell? ⟨w1.heap.size, 6, none⟩ = some (.int .i64 x.g) ∧ w'.cell? ⟨w1.heap.size, 7, none⟩ = some (.int .i64 x.h) ∧ w'.cell? ⟨w1.heap.size, 8, none⟩ = some (.int .i64 x.r) ∧ w'.cell? ⟨w1.heap.size + 1, 0, none⟩ = some (.int .i64 y.a) ∧ w'.cell? ⟨w1.heap.size + 1, 1, none⟩ = some (.int .i64 y.b) ∧ w'.cell? ⟨w1.heap.size + 1, 2, none⟩ = some (.int .i64 y.c) ∧ w'.cell? ⟨w1.heap.size + 1, 3, none⟩ = some (.int .i64 y.d) ∧ w'.cell? ⟨w1.heap.size + 1, 4, none⟩ = some (.int .i64 y.e) ∧ w'.cell? ⟨w1.heap.size + 1, 5, none⟩ = some (.int .i64 y.f) ∧ w'.cell? ⟨w1.heap.size + 1, 6, none⟩ = some (.int .i64 y.g) ∧ w'.cell? ⟨w1.heap.size + 1, 7, none⟩ = some (.int .i64 y.h) ∧ w'.cell? ⟨w1.heap.size + 1, 8, none⟩ = some (.int .i64 y.r) ∧ w'.cell? ⟨w2.heap.size, 0, none⟩ = some (.int .i64 0) ∧ w'.cell? ⟨w2.heap.size, 1, none⟩ = some (.int .i64 z.a) ∧ w'.cell? ⟨w2.heap.size, 2, none⟩ = some (.int .i64 z.b) ∧ w'.cell? ⟨w2.heap.size, 3, none⟩ = some (.int .i64 z.c) ∧ w'.cell? ⟨w2.heap.size, 4, none⟩ = some (.int .i64 z.d) ∧ w'.cell? ⟨w2.heap.size, 5, none⟩ = some (.int .i64 z.e) ∧ w'.cell? ⟨w2.heap.size, 6, none⟩ = some (.int .i64 z.f) ∧ w'.cell? ⟨w2.heap.size, 7, none⟩ = some (.int .i64 z.g) ∧ w'.cell? ⟨w2.heap.size, 8, none⟩ = some (.int .i64 z.h) ∧ w'.cell? ⟨w2.heap.size, 9, none⟩ = some (.int .i64 z.r) ∧ w'.cell? ⟨b3, o3 + 7, none⟩ = some (.int .i64 x.a) ∧ w'.cell? ⟨b3, o3 + 7 + 1, none⟩ = some (.int .i64 x.c) ∧ w'.cell? ⟨b3, o3 + 7 + 2, none⟩ = some (.int .i64 r1) ∧ w'.cell? ⟨b3, o3 + 7 + 3, none⟩ = some (.int .i64 64) ∧ w'.cell? ⟨b3, o3 + 7 + 4, none⟩ = some (.int .i64 x.e) ∧ w'.cell? ⟨b3, o3 + 7 + 5, none⟩ = some (.int .i64 x.g) ∧ w'.cell? ⟨b3, o3 + 7 + 6, none⟩ = some (.slice none 0 0))) (by kernel_rfl) (K.out _ (Below.refl _ _).drew) (fun hHeld => ?_)
                refine wpAnyH_take (i := 0) (oi := _) (v := ?vz91u1) rfl (by kernel_rfl) (by kernel_rfl) (by kernel_rfl) (fun _ _ _ h => h) (Or.inl ⟨by rfl, ?hyz91u1⟩) hHeld ?restz91u1
                case hyz91u1 => (intro w hSw; (try dsimp only at hSw); go_simp; first | done | with_reducible rfl)
                try simp only [Act.put, List.getElem_toArray, List.getElem_cons_zero, List.setIfInBounds_toArray, List.set_cons_zero, List.set_cons_succ]
                refine wpAnyH_take (i := 1) (oi := _) (v := ?vz91u2) rfl (by kernel_rfl) (by kernel_rfl) (by kernel_rfl) (fun _ _ _ h => h) (Or.inl ⟨by rfl, ?hyz91u2⟩) hHeld ?restz91u2
                case hyz91u2 => (intro w hSw; (try dsimp only at hSw); go_simp; first | done | with_reducible rfl)
                try simp only [Act.put, List.getElem_toArray, List.getElem_cons_zero, List.getElem_cons_succ, List.setIfInBounds_toArray, List.set_cons_zero, List.set_cons_succ]
                refine wpAnyH_take (i := 2) (oi := _) (v := ?vz91u3) rfl (by kernel_rfl) (by kernel_rfl) (by kernel_rfl) (fun _ _ _ h => h) (Or.inl ⟨by rfl, ?hyz91u3⟩) hHeld ?restz91u3
                case hyz91u3 => (intro w hSw; (try dsimp only at hSw); go_simp; first | done | with_reducible rfl)
                try simp only [Act.put, List.getElem_toArray, List.getElem_cons_zero, List.getElem_cons_succ, List.setIfInBounds_toArray, List.set_cons_zero, List.set_cons_succ]
                refine wpAnyH_take (i := 3) (oi := _) (v := ?vz91u4) rfl (by kernel_rfl) (by kernel_rfl) (by kernel_rfl) (fun _ _ _ h => h) (Or.inl ⟨by rfl, ?hyz91u4⟩) hHeld ?restz91u4
                case hyz91u4 => (intro w hSw; (try dsimp only at hSw); go_simp; first | done | with_reducible rfl)
                try simp only [Act.put, List.getElem_toArray, List.getElem_cons_zero, List.getElem_cons_succ, List.setIfInBounds_toArray, List.set_cons_zero, List.set_cons_succ]
                refine wpAnyH_ready (rs := [4]) (by kernel_rfl) (by simp) ?_
                refine AllReadyH.cons (o := _) rfl (fun K0 hK0 => ?_) AllReadyH.nil
                go_simp
                go_at_call 17
                refine (C1.out _).mono ?_
                rintro e wz91v5 ⟨rfl, bz91v5⟩
                refine hK0.out _ _ (K.out _ (thenB (Below.refl _ _).drew bz91v5)) (fun hHeld => ?_)
                clear hK0 K0
                try simp only [Act.put, List.getElem_toArray, List.getElem_cons_zero, List.getElem_cons_succ, List.setIfInBounds_toArray, List.set_cons_zero, List.set_cons_succ]
                refine wpAnyH_take (i := 5) (oi := _) (v := ?vz91u6) rfl (by kernel_rfl) (by kernel_rfl) (by kernel_rfl) (fun _ _ _ h => h) (Or.inl ⟨by rfl, ?hyz91u6⟩) hHeld ?restz91u6
                case hyz91u6 => (intro w hSw; (try dsimp only at hSw); go_simp; first | done | with_reducible rfl)
                try simp only [Act.put, List.getElem_toArray, List.getElem_cons_zero, List.getElem_cons_succ, List.setIfInBounds_toArray, List.set_cons_zero, List.set_cons_succ]
                refine wpAnyH_take (i := 6) (oi := _) (v := ?vz91u7) rfl (by kernel_rfl) (by kernel_rfl) (by kernel_rfl) (fun _ _ _ h => h) (Or.inl ⟨by rfl, ?hyz91u7⟩) hHeld ?restz91u7
                case hyz91u7 => (intro w hSw; (try dsimp only at hSw); go_simp; first | done | with_reducible rfl)
                try simp only [Act.put, List.getElem_toArray, List.getElem_cons_zero, List.getElem_cons_succ, List.setIfInBounds_toArray, List.set_cons_zero, List.set_cons_succ]
                refine wpAnyH_take (i := 7) (oi := _) (v := ?vz91u8) rfl (by kernel_rfl) (by kernel_rfl) (by kernel_rfl) (fun _ _ _ h => h) (Or.inl ⟨by rfl, ?hyz91u8⟩) hHeld ?restz91u8
                case hyz91u8 => (intro w hSw; (try dsimp only at hSw); go_simp; first | done | with_reducible rfl)
                try simp only [Act.put, List.getElem_toArray, List.getElem_cons_zero, List.getElem_cons_succ, List.setIfInBounds_toArray, List.set_cons_zero, List.set_cons_succ]
                refine wpAnyH_ready (rs := [8]) (by kernel_rfl) (by simp) ?_
                refine AllReadyH.cons (o := _) rfl (fun K0 hK0 => ?_) AllReadyH.nil
                go_simp
                go_at_call 18
                refine (CW.out _).mono ?_
                rintro e wz91v9 ⟨rfl, bz91v9⟩
                refine hK0.out _ _ (K.out _ (thenB (thenB (Below.refl _ _).drew bz91v5) bz91v9)) (fun hHeld => ?_)
                clear hK0 K0
                try simp only [Act.put, List.getElem_toArray, List.getElem_cons_zero, List.getElem_cons_succ, List.setIfInBounds_toArray, List.set_cons_zero, List.set_cons_succ]
                refine wpAnyH_take (i := 9) (oi := _) (v := ?vz91u10) rfl (by kernel_rfl) (by kernel_rfl) (by kernel_rfl) (fun _ _ _ h => h) (Or.inl ⟨by rfl, ?hyz91u10⟩) hHeld ?restz91u10
                case hyz91u10 => (intro w hSw; (try dsimp only at hSw); go_simp; first | done | with_reducible rfl)
                try simp only [Act.put, List.getElem_toArray, List.getElem_cons_zero, List.getElem_cons_succ, List.setIfInBounds_toArray, List.set_cons_zero, List.set_cons_succ]
                refine wpAnyH_take (i := 10) (oi := _) (v := ?vz91u11) rfl (by kernel_rfl) (by kernel_rfl) (by kernel_rfl) (fun _ _ _ h => h) (Or.inl ⟨by rfl, ?hyz91u11⟩) hHeld ?restz91u11
                case hyz91u11 => (intro w hSw; (try dsimp only at hSw); go_simp; first | done | with_reducible rfl)
                try simp only [Act.put, List.getElem_toArray, List.getElem_cons_zero, List.getElem_cons_succ, List.setIfInBounds_toArray, List.set_cons_zero, List.set_cons_succ]
                refine wpAnyH_take (i := 11) (oi := _) (v := ?vz91u12) rfl (by kernel_rfl) (by kernel_rfl) (by kernel_rfl) (fun _ _ _ h => h) (Or.inl ⟨by rfl, ?hyz91u12⟩) hHeld ?restz91u12
                case hyz91u12 => (intro w hSw; (try dsimp only at hSw); go_simp; first | done | with_reducible rfl)
                try simp only [Act.put, List.getElem_toArray, List.getElem_cons_zero, List.getElem_cons_succ, List.setIfInBounds_toArray, List.set_cons_zero, List.set_cons_succ]
                refine wpAnyH_take (i := 12) (oi := _) (v := ?vz91u13) rfl (by kernel_rfl) (by kernel_rfl) (by kernel_rfl) (fun _ _ _ h => h) (Or.inl ⟨by rfl, ?hyz91u13⟩) hHeld ?restz91u13
                case hyz91u13 => (intro w hSw; (try dsimp only at hSw); go_simp; first | done | with_reducible rfl)
                try simp only [Act.put, List.getElem_toArray, List.getElem_cons_zero, List.getElem_cons_succ, List.setIfInBounds_toArray, List.set_cons_zero, List.set_cons_succ]
                refine wpAnyH_take (i := 13) (oi := _) (v := ?vz91u14) rfl (by kernel_rfl) (by kernel_rfl) (by kernel_rfl) (fun _ _ _ h => h) (Or.inl ⟨by rfl, ?hyz91u14⟩) hHeld ?restz91u14
                case hyz91u14 => (intro w hSw; (try dsimp only at hSw); go_simp; first | done | with_reducible rfl)
                try simp only [Act.put, List.getElem_toArray, List.getElem_cons_zero, List.getElem_cons_succ, List.setIfInBounds_toArray, List.set_cons_zero, List.set_cons_succ]
                refine wpAnyH_take (i := 14) (oi := _) (v := ?vz91u15) rfl (by kernel_rfl) (by kernel_rfl) (by kernel_rfl) (fun _ _ _ h => h) (Or.inl ⟨by rfl, ?hyz91u15⟩) hHeld ?restz91u15
                case hyz91u15 => (intro w hSw; (try dsimp only at hSw); go_simp; first | done | with_reducible rfl)
                try simp only [Act.put, List.getElem_toArray, List.getElem_cons_zero, List.getElem_cons_succ, List.setIfInBounds_toArray, List.set_cons_zero, List.set_cons_succ]
                refine wpAnyH_ready (rs := [15]) (by kernel_rfl) (by simp) ?_
                refine AllReadyH.cons (o := _) rfl (fun K0 hK0 => ?_) AllReadyH.nil
                go_simp
                go_at_call 11
                refine (CN.out _).mono ?_
                rintro e wz91v16 ⟨rfl, bz91v16⟩
                refine hK0.out _ _ (K.out _ (thenB (thenB (thenB (Below.refl _ _).drew bz91v5) bz91v9) bz91v16)) (fun hHeld => ?_)
                clear hK0 K0
                try simp only [Act.put, List.getElem_toArray, List.getElem_cons_zero, List.getElem_cons_succ, List.setIfInBounds_toArray, List.set_cons_zero, List.set_cons_succ]
                refine wpAnyH_take (i := 16) (oi := _) (v := ?vz91u17) rfl (by kernel_rfl) (by kernel_rfl) (by kernel_rfl) (fun _ _ _ h => h) (Or.inl ⟨by rfl, ?hyz91u17⟩) hHeld ?restz91u17
                case hyz91u17 => (intro w hSw; (try dsimp only at hSw); go_simp; first | done | with_reducible rfl)
                try simp only [Act.put, List.getElem_toArray, List.getElem_cons_zero, List.getElem_cons_succ, List.setIfInBounds_toArray, List.set_cons_zero, List.set_cons_succ]
                refine wpAnyH_take (i := 17) (oi := _) (v := ?vz91u18) rfl (by kernel_rfl) (by kernel_rfl) (by kernel_rfl) (fun _ _ _ h => h) (Or.inl ⟨by rfl, ?hyz91u18⟩) hHeld ?restz91u18
                case hyz91u18 => (intro w hSw; (try dsimp only at hSw); go_simp; first | done | with_reducible rfl)
                try simp only [Act.put, List.getElem_toArray, List.getElem_cons_zero, List.getElem_cons_succ, List.setIfInBounds_toArray, List.set_cons_zero, List.set_cons_succ]
                refine wpAnyH_take (i := 18) (oi := _) (v := ?vz91u19) rfl (by kernel_rfl) (by kernel_rfl) (by kernel_rfl) (fun _ _ _ h => h) (Or.inl ⟨by rfl, ?hyz91u19⟩) hHeld ?restz91u19
                case hyz91u19 => (intro w hSw; (try dsimp only at hSw); go_simp; first | done | with_reducible rfl)
                try simp only [Act.put, List.getElem_toArray, List.getElem_cons_zero, List.getElem_cons_succ, List.setIfInBounds_toArray, List.set_cons_zero, List.set_cons_succ]
                refine wpAnyH_take (i := 19) (oi := _) (v := ?vz91u20) rfl (by kernel_rfl) (by kernel_rfl) (by kernel_rfl) (fun _ _ _ h => h) (Or.inl ⟨by rfl, ?hyz91u20⟩) hHeld ?restz91u20
                case hyz91u20 => (intro w hSw; (try dsimp only at hSw); go_simp; first | done | with_reducible rfl)
                try simp only [Act.put, List.getElem_toArray, List.getElem_cons_zero, List.getElem_cons_succ, List.setIfInBounds_toArray, List.set_cons_zero, List.set_cons_succ]
                refine wpAnyH_done (by kernel_rfl) ?_ _
                clear K hHeld
                replace VA := VA.kept (thenB (thenB (thenB (Below.refl _ _).drew bz91v5) bz91v9) bz91v16)
                replace VB := VB.kept (thenB (thenB (thenB (Below.refl _ _).drew bz91v5) bz91v9) bz91v16)
                replace VM := VM.kept (thenB (thenB (thenB (Below.refl _ _).drew bz91v5) bz91v9) bz91v16)
                replace RQ := RQ.kept (thenB (thenB (thenB (Below.refl _ _).drew bz91v5) bz91v9) bz91v16)
                replace B := thenB B (thenB (thenB (thenB (Below.refl _ _).drew bz91v5) bz91v9) bz91v16)
                have Sz91 := ((thenB (thenB (thenB (Below.refl _ _).drew bz91v5) bz91v9) bz91v16)).size
                clear bz91v5 bz91v9 bz91v16
                obtain ⟨s_VA, f_VA, z_VA⟩ := VA.open
                obtain ⟨s_VB, f_VB, z_VB⟩ := VB.open
                obtain ⟨s_VM, f_VM, z_VM⟩ := VM.open
                have Bo := B
                go_wp2
                go_ret
                exact ⟨rfl, Bo⟩
          · skip
            have hmz : (mtC x y == 0) = false := by simp [hm]
            have HM : ∀ f t r l u v n, (hoP x f t r l u v n && hoP y f t r l u v n) = false := fun f t r l u v n => (HM0 f t r l u v n).trans (by rw [hmz]; rfl)
            replace HM := Hid.mk HM
            clear HM0
            have RK := OL.rd
            clear OL hne
            generalize mtS x y = z at *
            generalize mtS y x = z2 at *
            generalize mtC x y = kk at *
            obtain ⟨ps, hps⟩ : ∃ ps, [(⟨f, t', r, l, u, v, s, m, d⟩ : K7), ⟨x.a, x.c, r1, 64, x.e, x.g, none, 0, 0⟩, ⟨y.a, y.c, r2, 64, y.e, y.g, none, 0, 0⟩] = ps := ⟨_, rfl⟩
            have hl : ps.length = 3 := by rw [← hps]; rfl
            have hp1 : ps.getD 1 z7 = ⟨x.a, x.c, r1, 64, x.e, x.g, none, 0, 0⟩ := by rw [← hps]; rfl
            rw [hps] at RK
            rcases RK with h0 | ⟨b3, o3, rfl, hc⟩
            · rw [h0] at hl; cases hl
            have RQ : RdK wc (some ⟨b3, o3, none⟩) ps := .inr ⟨b3, o3, rfl, hc⟩
            clear hc hps
            obtain ⟨s_VM, f_VM, z_VM⟩ := VM.open
            replace VA := Hid.mk VA
            replace VB := Hid.mk VB
            replace VM := Hid.mk VM
            replace RQ := Hid.mk RQ
            replace B := Hid.mk B
            replace HM := Hid.mk HM
            go_wp2
            clear s_VM f_VM z_VM
            go_loopw [9] (fun i wr => ∃ k : Nat, k ≤ 3 ∧ i = .int .i64 k ∧ V wr (w1.heap.size) [.int .i64 x.a, .int .i64 x.b, .int .i64 x.c, .int .i64 x.d, .int .i64 x.e, .int .i64 x.f, .int .i64 x.g, .int .i64 x.h, .int .i64 x.r] ∧ V wr (w1.heap.size + 1) [.int .i64 y.a, .int .i64 y.b, .int .i64 y.c, .int .i64 y.d, .int .i64 y.e, .int .i64 y.f, .int .i64 y.g, .int .i64 y.h, .int .i64 y.r] ∧ V wr (w2.heap.size) [.int .i64 kk, .int .i64 z.a, .int .i64 z.b, .int .i64 z.c, .int .i64 z.d, .int .i64 z.e, .int .i64 z.f, .int .i64 z.g, .int .i64 z.h, .int .i64 z.r] ∧ RdK wr (some ⟨b3, o3, none⟩) ps ∧ Below w.heap.size w wr) (fun i _ => 3 - (intOf i).toNat)
            case atStart => exact ⟨0, Nat.zero_le _, rfl, VA.out, VB.out, VM.out, RQ.out, B.out⟩
            case round =>
              clear VA VB VM RQ B
              obtain ⟨k, hk, rfl, VA, VB, VM, RQ, B⟩ := hrel
              by_cases hlt : k < 3
              · skip
                obtain ⟨p, hp⟩ : ∃ p, ps.getD k z7 = p := ⟨_, rfl⟩
                have E := HM.out p.f p.t p.r p.l p.u p.v p.m
                have C1 := Hid.mk (CA.out p)
                have C2 := Hid.mk (CB.out p)
                have hk1 : (k : Int) < 3 := by omega
                generalize hoP x p.f p.t p.r p.l p.u p.v p.m = t1 at *
                generalize hoP y p.f p.t p.r p.l p.u p.v p.m = t2 at *
                obtain ⟨s_VA, f_VA, z_VA⟩ := VA.open
                obtain ⟨s_VB, f_VB, z_VB⟩ := VB.open
                obtain ⟨s_VM, f_VM, z_VM⟩ := VM.open
                have Bo := B
                obtain ⟨q0, q1, q2, q3, q4, q5, q6⟩ := RdK.at RQ k (by omega) _ hp
                have hb3 := World.block_lt_of_cell? (a := ⟨b3, o3 + k * 7, none⟩) _ q0
                simp only at hb3
                have hp9 := hp
                clear hp
                cases t1
                · skip
                  clear E
                  clear s_VA f_VA z_VA s_VB f_VB z_VB s_VM f_VM z_VM
                  have K : ∀ w' : World, Below wr.heap.size wr w' → (w'.cell? ⟨w1.heap.size, 0, none⟩ = some (.int .i64 x.a) ∧ w'.cell? ⟨w1.heap.size, 1, none⟩ = some (.int .i64 x.b) ∧ w'.cell? ⟨w1.heap.size, 2, none⟩ = some (.int .i64 x.c) ∧ w'.cell? ⟨w1.heap.size, 3, none⟩ = some (.int .i64 x.d) ∧ w'.cell? ⟨w1.heap.size, 4, none⟩ = some (.int .i64 x.e) ∧ w'.cell? ⟨w1.heap.size, 5, none⟩ = some (.int .i64 x.f) ∧ w'.cell? ⟨w1.heap.size, 6, none⟩ = some (.int .i64 x.g) ∧ w'.cell? ⟨w1.heap.size, 7, none⟩ = some (.int .i64 x.h) ∧ w'.cell? ⟨w1.heap.size, 8, none⟩ = some (.int .i64 x.r) ∧ w'.cell? ⟨w1.heap.size + 1, 0, none⟩ = some (.int .i64 y.a) ∧ w'.cell? ⟨w1.heap.size + 1, 1, none⟩ = some (.int .i64 y.b) ∧ w'.cell? ⟨w1.heap.size + 1, 2, none⟩ = some (.int .i64 y.c) ∧ w'.cell? ⟨w1.heap.size + 1, 3, none⟩ = some (.int .i64 y.d) ∧ w'.cell? ⟨w1.heap.size + 1, 4, none⟩ = some (.int .i64 y.e) ∧ w'.cell? ⟨w1.heap.size + 1, 5, none⟩ = some (.int .i64 y.f) ∧ w'.cell? ⟨w1.heap.size + 1, 6, none⟩ = some (.int .i64 y.g) ∧ w'.cell? ⟨w1.heap.size + 1, 7, none⟩ = some (.int .i64 y.h) ∧ w'.cell? ⟨w1.heap.size + 1, 8, none⟩ = some (.int .i64 y.r) ∧ w'.cell? ⟨b3, o3 + k * 7, none⟩ = some (.int .i64 p.f) ∧ w'.cell? ⟨b3, o3 + k * 7 + 1, none⟩ = some (.int .i64 p.t) ∧ w'.cell? ⟨b3, o3 + k * 7 + 2, none⟩ = some (.int .i64 p.r) ∧ w'.cell? ⟨b3, o3 + k * 7 + 3, none⟩ = some (.int .i64 p.l) ∧ w'.cell? ⟨b3, o3 + k * 7 + 4, none⟩ = some (.int .i64 p.u) ∧ w'.cell? ⟨b3, o3 + k * 7 + 5, none⟩ = some (.int .i64 p.v) ∧ w'.cell? ⟨b3, o3 + k * 7 + 6, none⟩ = some (.slice p.s p.m p.d)) := fun w' h => ⟨(VA.kept h).2.1 0 (by simp), (VA.kept h).2.1 1 (by simp), (VA.kept h).2.1 2 (by simp), (VA.kept h).2.1 3 (by simp), (VA.kept h).2.1 4 (by simp), (VA.kept h).2.1 5 (by simp), (VA.kept h).2.1 6 (by simp), (VA.kept h).2.1 7 (by simp), (VA.kept h).2.1 8 (by simp), (VB.kept h).2.1 0 (by simp), (VB.kept h).2.1 1 (by simp), (VB.kept h).2.1 2 (by simp), (VB.kept h).2.1 3 (by simp), (VB.kept h).2.1 4 (by simp), (VB.kept h).2.1 5 (by simp), (VB.kept h).2.1 6 (by simp), (VB.kept h).2.1 7 (by simp), (VB.kept h).2.1 8 (by simp), ((bcell h).1 _ _ hb3).trans q0, ((bcell h).1 _ _ hb3).trans q1, ((bcell h).1 _ _ hb3).trans q2, ((bcell h).1 _ _ hb3).trans q3, ((bcell h).1 _ _ hb3).trans q4, ((bcell h).1 _ _ hb3).trans q5, ((bcell h).1 _ _ hb3).trans q6⟩
                  have K := Hid.mk K
                  clear q0 q1 q2 q3 q4 q5 q6
                  go_wp2_with fail
                  refine wp_region_held_drew (S := (fun w' => w'.cell? ⟨w1.heap.size, 0, none⟩ = some (.int .i64 x.a) ∧ w'.cell? ⟨w1.heap.size, 1, none⟩ = some (.int .i64 x.b) ∧ w'.cell? ⟨w1.heap.size, 2, none⟩ = some (.int .i64 x.c) ∧ w'.cell? ⟨w1.heap.size, 3, none⟩ = some (.int .i64 x.d) ∧ w'.cell? ⟨w1.heap.size, 4, none⟩ = some (.int .i64 x.e) ∧ w'.cell? ⟨w1.heap.size, 5, none⟩ = some (.int .i64 x.f) ∧ w'.cell? ⟨w1.heap.size, 6, none⟩ = some (.int .i64 x.g) ∧ w'.cell? ⟨w1.heap.size, 7, none⟩ = some (.int .i64 x.h) ∧ w'.cell? ⟨w1.heap.size, 8, none⟩ = some (.int .i64 x.r) ∧ w'.cell? ⟨w1.heap.size + 1, 0, none⟩ = some (.int .i64 y.a) ∧ w'.cell? ⟨w1.heap.size + 1, 1, none⟩ = some (.int .i64 y.b) ∧ w'.cell? ⟨w1.heap.size + 1, 2, none⟩ = some (.int .i64 y.c) ∧ w'.cell? ⟨w1.heap.size + 1, 3, none⟩ = some (.int .i64 y.d) ∧ w'.cell? ⟨w1.heap.size + 1, 4, none⟩ = some (.int .i64 y.e) ∧ w'.cell? ⟨w1.heap.size + 1, 5, none⟩ = some (.int .i64 y.f) ∧ w'.cell? ⟨w1.heap.size + 1, 6, none⟩ = some (.int .i64 y.g) ∧ w'.cell? ⟨w1.heap.size + 1, 7, none⟩ = some (.int .i64 y.h) ∧ w'.cell? ⟨w1.heap.size + 1, 8, none⟩ = some (.int .i64 y.r) ∧ w'.cell? ⟨b3, o3 + k * 7, none⟩ = some (.int .i64 p.f) ∧ w'.cell? ⟨b3, o3 + k * 7 + 1, none⟩ = some (.int .i64 p.t) ∧ w'.cell? ⟨b3, o3 + k * 7 + 2, none⟩ = some (.int .i64 p.r) ∧ w'.cell? ⟨b3, o3 + k * 7 + 3, none⟩ = some (.int .i64 p.l) ∧ w'.cell? ⟨b3, o3 + k * 7 + 4, none⟩ = some (.int .i64 p.u) ∧ w'.cell? ⟨b3, o3 + k * 7 + 5, none⟩ = some (.int .i64 p.v) ∧ w'.cell? ⟨b3, o3 + k * 7 + 6, none⟩ = some (.slice p.s p.m p.d))) (by kernel_rfl) (K.out _ (Below.refl _ _).drew) (fun hHeld => ?_)
                  refine wpAnyH_take (i := 0) (oi := _) (v := ?vz71u1) rfl (by kernel_rfl) (by kernel_rfl) (by kernel_rfl) (fun _ _ _ h => h) (Or.inl ⟨by rfl, ?hyz71u1⟩) hHeld ?restz71u1
                  case hyz71u1 => (intro w hSw; (try dsimp only at hSw); go_simp; first | done | with_reducible rfl)
                  try simp only [Act.put, List.getElem_toArray, List.getElem_cons_zero, List.setIfInBounds_toArray, List.set_cons_zero, List.set_cons_succ]
                  refine wpAnyH_take (i := 1) (oi := _) (v := ?vz71u2) rfl (by kernel_rfl) (by kernel_rfl) (by kernel_rfl) (fun _ _ _ h => h) (Or.inl ⟨by rfl, ?hyz71u2⟩) hHeld ?restz71u2
                  case hyz71u2 => (intro w hSw; (try dsimp only at hSw); go_simp; first | done | with_reducible rfl)
                  try simp only [Act.put, List.getElem_toArray, List.getElem_cons_zero, List.getElem_cons_succ, List.setIfInBounds_toArray, List.set_cons_zero, List.set_cons_succ]
                  refine wpAnyH_take (i := 2) (oi := _) (v := ?vz71u3) rfl (by kernel_rfl) (by kernel_rfl) (by kernel_rfl) (fun _ _ _ h => h) (Or.inl ⟨by rfl, ?hyz71u3⟩) hHeld ?restz71u3
                  case hyz71u3 => (intro w hSw; (try dsimp only at hSw); go_simp; first | done | with_reducible rfl)
                  try simp only [Act.put, List.getElem_toArray, List.getElem_cons_zero, List.getElem_cons_succ, List.setIfInBounds_toArray, List.set_cons_zero, List.set_cons_succ]
                  refine wpAnyH_take (i := 3) (oi := _) (v := ?vz71u4) rfl (by kernel_rfl) (by kernel_rfl) (by kernel_rfl) (fun _ _ _ h => h) (Or.inl ⟨by rfl, ?hyz71u4⟩) hHeld ?restz71u4
                  case hyz71u4 => (intro w hSw; (try dsimp only at hSw); go_simp; first | done | with_reducible rfl)
                  try simp only [Act.put, List.getElem_toArray, List.getElem_cons_zero, List.getElem_cons_succ, List.setIfInBounds_toArray, List.set_cons_zero, List.set_cons_succ]
                  refine wpAnyH_take (i := 4) (oi := _) (v := ?vz71u5) rfl (by kernel_rfl) (by kernel_rfl) (by kernel_rfl) (fun _ _ _ h => h) (Or.inl ⟨by rfl, ?hyz71u5⟩) hHeld ?restz71u5
                  case hyz71u5 => (intro w hSw; (try dsimp only at hSw); go_simp; first | done | with_reducible rfl)
                  try simp only [Act.put, List.getElem_toArray, List.getElem_cons_zero, List.getElem_cons_succ, List.setIfInBounds_toArray, List.set_cons_zero, List.set_cons_succ]
                  refine wpAnyH_ready (rs := [5]) (by kernel_rfl) (by simp) ?_
                  refine AllReadyH.cons (o := _) rfl (fun K0 hK0 => ?_) AllReadyH.nil
                  go_simp
                  go_at_call 17
                  refine (C1.out _).mono ?_
                  rintro e wz71v6 ⟨rfl, bz71v6⟩
                  refine hK0.out _ _ (K.out _ (thenB (Below.refl _ _).drew bz71v6)) (fun hHeld => ?_)
                  clear hK0 K0
                  try simp only [Act.put, List.getElem_toArray, List.getElem_cons_zero, List.getElem_cons_succ, List.setIfInBounds_toArray, List.set_cons_zero, List.set_cons_succ]
                  refine wpAnyH_take (i := 6) (oi := _) (v := ?vz71u7) rfl (by kernel_rfl) (by kernel_rfl) (by kernel_rfl) (fun _ _ _ h => h) (Or.inl ⟨by rfl, ?hyz71u7⟩) hHeld ?restz71u7
                  case hyz71u7 => (intro w hSw; (try dsimp only at hSw); go_simp; first | done | with_reducible rfl)
                  try simp only [Act.put, List.getElem_toArray, List.getElem_cons_zero, List.getElem_cons_succ, List.setIfInBounds_toArray, List.set_cons_zero, List.set_cons_succ]
                  refine wpAnyH_take (i := 7) (oi := _) (v := undef) rfl (by kernel_rfl) (by kernel_rfl) (by kernel_rfl) (fun _ _ _ h => h) (Or.inr ⟨by rfl, rfl⟩) hHeld ?_
                  try simp only [Act.put, List.getElem_toArray, List.getElem_cons_zero, List.getElem_cons_succ, List.setIfInBounds_toArray, List.set_cons_zero, List.set_cons_succ]
                  refine wpAnyH_take (i := 8) (oi := _) (v := undef) rfl (by kernel_rfl) (by kernel_rfl) (by kernel_rfl) (fun _ _ _ h => h) (Or.inr ⟨by rfl, rfl⟩) hHeld ?_
                  try simp only [Act.put, List.getElem_toArray, List.getElem_cons_zero, List.getElem_cons_succ, List.setIfInBounds_toArray, List.set_cons_zero, List.set_cons_succ]
                  refine wpAnyH_take (i := 9) (oi := _) (v := undef) rfl (by kernel_rfl) (by kernel_rfl) (by kernel_rfl) (fun _ _ _ h => h) (Or.inr ⟨by rfl, rfl⟩) hHeld ?_
                  try simp only [Act.put, List.getElem_toArray, List.getElem_cons_zero, List.getElem_cons_succ, List.setIfInBounds_toArray, List.set_cons_zero, List.set_cons_succ]
                  refine wpAnyH_take (i := 10) (oi := _) (v := undef) rfl (by kernel_rfl) (by kernel_rfl) (by kernel_rfl) (fun _ _ _ h => h) (Or.inr ⟨by rfl, rfl⟩) hHeld ?_
                  try simp only [Act.put, List.getElem_toArray, List.getElem_cons_zero, List.getElem_cons_succ, List.setIfInBounds_toArray, List.set_cons_zero, List.set_cons_succ]
                  refine wpAnyH_take (i := 11) (oi := _) (v := undef) rfl (by kernel_rfl) (by kernel_rfl) (by kernel_rfl) (fun _ _ _ h => h) (Or.inr ⟨by rfl, rfl⟩) hHeld ?_
                  try simp only [Act.put, List.getElem_toArray, List.getElem_cons_zero, List.getElem_cons_succ, List.setIfInBounds_toArray, List.set_cons_zero, List.set_cons_succ]
                  refine wpAnyH_take (i := 12) (oi := _) (v := undef) rfl (by kernel_rfl) (by kernel_rfl) (by kernel_rfl) (fun _ _ _ h => h) (Or.inr ⟨by rfl, rfl⟩) hHeld ?_
                  try simp only [Act.put, List.getElem_toArray, List.getElem_cons_zero, List.getElem_cons_succ, List.setIfInBounds_toArray, List.set_cons_zero, List.set_cons_succ]
                  refine wpAnyH_take (i := 13) (oi := _) (v := ?vz71u8) rfl (by kernel_rfl) (by kernel_rfl) (by kernel_rfl) (fun _ _ _ h => h) (Or.inl ⟨by rfl, ?hyz71u8⟩) hHeld ?restz71u8
                  case hyz71u8 => (intro w hSw; (try dsimp only at hSw); go_simp; first | done | with_reducible rfl)
                  try simp only [Act.put, List.getElem_toArray, List.getElem_cons_zero, List.getElem_cons_succ, List.setIfInBounds_toArray, List.set_cons_zero, List.set_cons_succ]
                  refine wpAnyH_take (i := 14) (oi := _) (v := ?vz71u9) rfl (by kernel_rfl) (by kernel_rfl) (by kernel_rfl) (fun _ _ _ h => h) (Or.inl ⟨by rfl, ?hyz71u9⟩) hHeld ?restz71u9
                  case hyz71u9 => (intro w hSw; (try dsimp only at hSw); go_simp; first | done | with_reducible rfl)
                  try simp only [Act.put, List.getElem_toArray, List.getElem_cons_zero, List.getElem_cons_succ, List.setIfInBounds_toArray, List.set_cons_zero, List.set_cons_succ]
                  refine wpAnyH_done (by kernel_rfl) ?_ _
                  clear K hHeld
                  replace VA := VA.kept (thenB (Below.refl _ _).drew bz71v6)
                  replace VB := VB.kept (thenB (Below.refl _ _).drew bz71v6)
                  replace VM := VM.kept (thenB (Below.refl _ _).drew bz71v6)
                  replace RQ := RQ.kept (thenB (Below.refl _ _).drew bz71v6)
                  replace B := thenB B (thenB (Below.refl _ _).drew bz71v6)
                  have Sz71 := ((thenB (Below.refl _ _).drew bz71v6)).size
                  clear bz71v6
                  obtain ⟨s_VA, f_VA, z_VA⟩ := VA.open
                  obtain ⟨s_VB, f_VB, z_VB⟩ := VB.open
                  obtain ⟨s_VM, f_VM, z_VM⟩ := VM.open
                  have Bo := B
                  clear s_VA f_VA z_VA s_VB f_VB z_VB s_VM f_VM z_VM
                  have K : ∀ w' : World, Below wz71v6.heap.size wz71v6 w' → (w'.cell? ⟨w2.heap.size, 0, none⟩ = some (.int .i64 kk) ∧ w'.cell? ⟨w2.heap.size, 1, none⟩ = some (.int .i64 z.a) ∧ w'.cell? ⟨w2.heap.size, 2, none⟩ = some (.int .i64 z.b) ∧ w'.cell? ⟨w2.heap.size, 3, none⟩ = some (.int .i64 z.c) ∧ w'.cell? ⟨w2.heap.size, 4, none⟩ = some (.int .i64 z.d) ∧ w'.cell? ⟨w2.heap.size, 5, none⟩ = some (.int .i64 z.e) ∧ w'.cell? ⟨w2.heap.size, 6, none⟩ = some (.int .i64 z.f) ∧ w'.cell? ⟨w2.heap.size, 7, none⟩ = some (.int .i64 z.g) ∧ w'.cell? ⟨w2.heap.size, 8, none⟩ = some (.int .i64 z.h) ∧ w'.cell? ⟨w2.heap.size, 9, none⟩ = some (.int .i64 z.r)) := fun w' h => ⟨(VM.kept h).2.1 0 (by simp), (VM.kept h).2.1 1 (by simp), (VM.kept h).2.1 2 (by simp), (VM.kept h).2.1 3 (by simp), (VM.kept h).2.1 4 (by simp), (VM.kept h).2.1 5 (by simp), (VM.kept h).2.1 6 (by simp), (VM.kept h).2.1 7 (by simp), (VM.kept h).2.1 8 (by simp), (VM.kept h).2.1 9 (by simp)⟩
                  have K := Hid.mk K
                  go_wp2_with fail
                  refine wp_region_held_drew (S := (fun w' => w'.cell? ⟨w2.heap.size, 0, none⟩ = some (.int .i64 kk) ∧ w'.cell? ⟨w2.heap.size, 1, none⟩ = some (.int .i64 z.a) ∧ w'.cell? ⟨w2.heap.size, 2, none⟩ = some (.int .i64 z.b) ∧ w'.cell? ⟨w2.heap.size, 3, none⟩ = some (.int .i64 z.c) ∧ w'.cell? ⟨w2.heap.size, 4, none⟩ = some (.int .i64 z.d) ∧ w'.cell? ⟨w2.heap.size, 5, none⟩ = some (.int .i64 z.e) ∧ w'.cell? ⟨w2.heap.size, 6, none⟩ = some (.int .i64 z.f) ∧ w'.cell? ⟨w2.heap.size, 7, none⟩ = some (.int .i64 z.g) ∧ w'.cell? ⟨w2.heap.size, 8, none⟩ = some (.int .i64 z.h) ∧ w'.cell? ⟨w2.heap.size, 9, none⟩ = some (.int .i64 z.r))) (by kernel_rfl) (K.out _ (Below.refl _ _).drew) (fun hHeld => ?_)
                  refine wpAnyH_take (i := 0) (oi := _) (v := ?vz72u1) rfl (by kernel_rfl) (by kernel_rfl) (by kernel_rfl) (fun _ _ _ h => h) (Or.inl ⟨by rfl, ?hyz72u1⟩) hHeld ?restz72u1
                  case hyz72u1 => (intro w hSw; (try dsimp only at hSw); go_simp; first | done | with_reducible rfl)
                  try simp only [Act.put, List.getElem_toArray, List.getElem_cons_zero, List.setIfInBounds_toArray, List.set_cons_zero, List.set_cons_succ]
                  refine wpAnyH_take (i := 1) (oi := _) (v := ?vz72u2) rfl (by kernel_rfl) (by kernel_rfl) (by kernel_rfl) (fun _ _ _ h => h) (Or.inl ⟨by rfl, ?hyz72u2⟩) hHeld ?restz72u2
                  case hyz72u2 => (intro w hSw; (try dsimp only at hSw); go_simp; first | done | with_reducible rfl)
                  try simp only [Act.put, List.getElem_toArray, List.getElem_cons_zero, List.getElem_cons_succ, List.setIfInBounds_toArray, List.set_cons_zero, List.set_cons_succ]
                  refine wpAnyH_take (i := 2) (oi := _) (v := ?vz72u3) rfl (by kernel_rfl) (by kernel_rfl) (by kernel_rfl) (fun _ _ _ h => h) (Or.inl ⟨by rfl, ?hyz72u3⟩) hHeld ?restz72u3
                  case hyz72u3 => (intro w hSw; (try dsimp only at hSw); go_simp; first | done | with_reducible rfl)
                  try simp only [Act.put, List.getElem_toArray, List.getElem_cons_zero, List.getElem_cons_succ, List.setIfInBounds_toArray, List.set_cons_zero, List.set_cons_succ]
                  refine wpAnyH_take (i := 3) (oi := _) (v := ?vz72u4) rfl (by kernel_rfl) (by kernel_rfl) (by kernel_rfl) (fun _ _ _ h => h) (Or.inl ⟨by rfl, ?hyz72u4⟩) hHeld ?restz72u4
                  case hyz72u4 => (intro w hSw; (try dsimp only at hSw); go_simp; first | done | with_reducible rfl)
                  try simp only [Act.put, List.getElem_toArray, List.getElem_cons_zero, List.getElem_cons_succ, List.setIfInBounds_toArray, List.set_cons_zero, List.set_cons_succ]
                  refine wpAnyH_take (i := 4) (oi := _) (v := ?vz72u5) rfl (by kernel_rfl) (by kernel_rfl) (by kernel_rfl) (fun _ _ _ h => h) (Or.inl ⟨by rfl, ?hyz72u5⟩) hHeld ?restz72u5
                  case hyz72u5 => (intro w hSw; (try dsimp only at hSw); go_simp; first | done | with_reducible rfl)
                  try simp only [Act.put, List.getElem_toArray, List.getElem_cons_zero, List.getElem_cons_succ, List.setIfInBounds_toArray, List.set_cons_zero, List.set_cons_succ]
                  refine wpAnyH_take (i := 5) (oi := _) (v := undef) rfl (by kernel_rfl) (by kernel_rfl) (by kernel_rfl) (fun _ _ _ h => h) (Or.inr ⟨by rfl, rfl⟩) hHeld ?_
                  try simp only [Act.put, List.getElem_toArray, List.getElem_cons_zero, List.getElem_cons_succ, List.setIfInBounds_toArray, List.set_cons_zero, List.set_cons_succ]
                  refine wpAnyH_take (i := 6) (oi := _) (v := undef) rfl (by kernel_rfl) (by kernel_rfl) (by kernel_rfl) (fun _ _ _ h => h) (Or.inr ⟨by rfl, rfl⟩) hHeld ?_
                  try simp only [Act.put, List.getElem_toArray, List.getElem_cons_zero, List.getElem_cons_succ, List.setIfInBounds_toArray, List.set_cons_zero, List.set_cons_succ]
                  refine wpAnyH_take (i := 7) (oi := _) (v := undef) rfl (by kernel_rfl) (by kernel_rfl) (by kernel_rfl) (fun _ _ _ h => h) (Or.inr ⟨by rfl, rfl⟩) hHeld ?_
                  try simp only [Act.put, List.getElem_toArray, List.getElem_cons_zero, List.getElem_cons_succ, List.setIfInBounds_toArray, List.set_cons_zero, List.set_cons_succ]
                  refine wpAnyH_take (i := 8) (oi := _) (v := undef) rfl (by kernel_rfl) (by kernel_rfl) (by kernel_rfl) (fun _ _ _ h => h) (Or.inr ⟨by rfl, rfl⟩) hHeld ?_
                  try simp only [Act.put, List.getElem_toArray, List.getElem_cons_zero, List.getElem_cons_succ, List.setIfInBounds_toArray, List.set_cons_zero, List.set_cons_succ]
                  refine wpAnyH_take (i := 9) (oi := _) (v := undef) rfl (by kernel_rfl) (by kernel_rfl) (by kernel_rfl) (fun _ _ _ h => h) (Or.inr ⟨by rfl, rfl⟩) hHeld ?_
                  try simp only [Act.put, List.getElem_toArray, List.getElem_cons_zero, List.getElem_cons_succ, List.setIfInBounds_toArray, List.set_cons_zero, List.set_cons_succ]
                  refine wpAnyH_take (i := 10) (oi := _) (v := undef) rfl (by kernel_rfl) (by kernel_rfl) (by kernel_rfl) (fun _ _ _ h => h) (Or.inr ⟨by rfl, rfl⟩) hHeld ?_
                  try simp only [Act.put, List.getElem_toArray, List.getElem_cons_zero, List.getElem_cons_succ, List.setIfInBounds_toArray, List.set_cons_zero, List.set_cons_succ]
                  refine wpAnyH_take (i := 11) (oi := _) (v := undef) rfl (by kernel_rfl) (by kernel_rfl) (by kernel_rfl) (fun _ _ _ h => h) (Or.inr ⟨by rfl, rfl⟩) hHeld ?_
                  try simp only [Act.put, List.getElem_toArray, List.getElem_cons_zero, List.getElem_cons_succ, List.setIfInBounds_toArray, List.set_cons_zero, List.set_cons_succ]
                  refine wpAnyH_take (i := 12) (oi := _) (v := ?vz72u6) rfl (by kernel_rfl) (by kernel_rfl) (by kernel_rfl) (fun _ _ _ h => h) (Or.inl ⟨by rfl, ?hyz72u6⟩) hHeld ?restz72u6
                  case hyz72u6 => (intro w hSw; (try dsimp only at hSw); go_simp; first | done | with_reducible rfl)
                  try simp only [Act.put, List.getElem_toArray, List.getElem_cons_zero, List.getElem_cons_succ, List.setIfInBounds_toArray, List.set_cons_zero, List.set_cons_succ]
                  refine wpAnyH_take (i := 13) (oi := _) (v := ?vz72u7) rfl (by kernel_rfl) (by kernel_rfl) (by kernel_rfl) (fun _ _ _ h => h) (Or.inl ⟨by rfl, ?hyz72u7⟩) hHeld ?restz72u7
                  case hyz72u7 => (intro w hSw; (try dsimp only at hSw); go_simp; first | done | with_reducible rfl)
                  try simp only [Act.put, List.getElem_toArray, List.getElem_cons_zero, List.getElem_cons_succ, List.setIfInBounds_toArray, List.set_cons_zero, List.set_cons_succ]
                  refine wpAnyH_done (by kernel_rfl) ?_ _
                  have bdr : Below wz71v6.heap.size wz71v6 (wz71v6.drew) := (Below.refl _ _).drew
                  clear K hHeld
                  replace VA := VA.kept bdr
                  replace VB := VB.kept bdr
                  replace VM := VM.kept bdr
                  replace RQ := RQ.kept bdr
                  replace B := thenB B bdr
                  clear bdr
                  obtain ⟨s_VA, f_VA, z_VA⟩ := VA.open
                  obtain ⟨s_VB, f_VB, z_VB⟩ := VB.open
                  obtain ⟨s_VM, f_VM, z_VM⟩ := VM.open
                  have Bo := B
                  clear s_VA f_VA z_VA s_VB f_VB z_VB s_VM f_VM z_VM
                  replace VA := Hid.mk VA
                  replace VB := Hid.mk VB
                  replace VM := Hid.mk VM
                  replace RQ := Hid.mk RQ
                  replace B := Hid.mk Bo
                  clear Bo
                  go_wp2
                  go_roundw
                  case rel => exact ⟨k + 1, by omega, by go_num, VA.out, VB.out, VM.out, RQ.out, B.out⟩
                  case measure => simp [intOf]; omega
                · skip
                  rw [Bool.true_and] at E
                  subst E
                  clear s_VA f_VA z_VA s_VB f_VB z_VB s_VM f_VM z_VM
                  have K : ∀ w' : World, Below wr.heap.size wr w' → (w'.cell? ⟨w1.heap.size, 0, none⟩ = some (.int .i64 x.a) ∧ w'.cell? ⟨w1.heap.size, 1, none⟩ = some (.int .i64 x.b) ∧ w'.cell? ⟨w1.heap.size, 2, none⟩ = some (.int .i64 x.c) ∧ w'.cell? ⟨w1.heap.size, 3, none⟩ = some (.int .i64 x.d) ∧ w'.cell? ⟨w1.heap.size, 4, none⟩ = some (.int .i64 x.e) ∧ w'.cell? ⟨w1.heap.size, 5, none⟩ = some (.int .i64 x.f) ∧ w'.cell? ⟨w1.heap.size, 6, none⟩ = some (.int .i64 x.g) ∧ w'.cell? ⟨w1.heap.size, 7, none⟩ = some (.int .i64 x.h) ∧ w'.cell? ⟨w1.heap.size, 8, none⟩ = some (.int .i64 x.r) ∧ w'.cell? ⟨w1.heap.size + 1, 0, none⟩ = some (.int .i64 y.a) ∧ w'.cell? ⟨w1.heap.size + 1, 1, none⟩ = some (.int .i64 y.b) ∧ w'.cell? ⟨w1.heap.size + 1, 2, none⟩ = some (.int .i64 y.c) ∧ w'.cell? ⟨w1.heap.size + 1, 3, none⟩ = some (.int .i64 y.d) ∧ w'.cell? ⟨w1.heap.size + 1, 4, none⟩ = some (.int .i64 y.e) ∧ w'.cell? ⟨w1.heap.size + 1, 5, none⟩ = some (.int .i64 y.f) ∧ w'.cell? ⟨w1.heap.size + 1, 6, none⟩ = some (.int .i64 y.g) ∧ w'.cell? ⟨w1.heap.size + 1, 7, none⟩ = some (.int .i64 y.h) ∧ w'.cell? ⟨w1.heap.size + 1, 8, none⟩ = some (.int .i64 y.r) ∧ w'.cell? ⟨b3, o3 + k * 7, none⟩ = some (.int .i64 p.f) ∧ w'.cell? ⟨b3, o3 + k * 7 + 1, none⟩ = some (.int .i64 p.t) ∧ w'.cell? ⟨b3, o3 + k * 7 + 2, none⟩ = some (.int .i64 p.r) ∧ w'.cell? ⟨b3, o3 + k * 7 + 3, none⟩ = some (.int .i64 p.l) ∧ w'.cell? ⟨b3, o3 + k * 7 + 4, none⟩ = some (.int .i64 p.u) ∧ w'.cell? ⟨b3, o3 + k * 7 + 5, none⟩ = some (.int .i64 p.v) ∧ w'.cell? ⟨b3, o3 + k * 7 + 6, none⟩ = some (.slice p.s p.m p.d)) := fun w' h => ⟨(VA.kept h).2.1 0 (by simp), (VA.kept h).2.1 1 (by simp), (VA.kept h).2.1 2 (by simp), (VA.kept h).2.1 3 (by simp), (VA.kept h).2.1 4 (by simp), (VA.kept h).2.1 5 (by simp), (VA.kept h).2.1 6 (by simp), (VA.kept h).2.1 7 (by simp), (VA.kept h).2.1 8 (by simp), (VB.kept h).2.1 0 (by simp), (VB.kept h).2.1 1 (by simp), (VB.kept h).2.1 2 (by simp), (VB.kept h).2.1 3 (by simp), (VB.kept h).2.1 4 (by simp), (VB.kept h).2.1 5 (by simp), (VB.kept h).2.1 6 (by simp), (VB.kept h).2.1 7 (by simp), (VB.kept h).2.1 8 (by simp), ((bcell h).1 _ _ hb3).trans q0, ((bcell h).1 _ _ hb3).trans q1, ((bcell h).1 _ _ hb3).trans q2, ((bcell h).1 _ _ hb3).trans q3, ((bcell h).1 _ _ hb3).trans q4, ((bcell h).1 _ _ hb3).trans q5, ((bcell h).1 _ _ hb3).trans q6⟩
                  have K := Hid.mk K
                  clear q0 q1 q2 q3 q4 q5 q6
                  go_wp2_with fail
                  refine wp_region_held_drew (S := (fun w' => w'.cell? ⟨w1.heap.size, 0, none⟩ = some (.int .i64 x.a) ∧ w'.cell? ⟨w1.heap.size, 1, none⟩ = some (.int .i64 x.b) ∧ w'.cell? ⟨w1.heap.size, 2, none⟩ = some (.int .i64 x.c) ∧ w'.cell? ⟨w1.heap.size, 3, none⟩ = some (.int .i64 x.d) ∧ w'.cell? ⟨w1.heap.size, 4, none⟩ = some (.int .i64 x.e) ∧ w'.cell? ⟨w1.heap.size, 5, none⟩ = some (.int .i64 x.f) ∧ w'.cell? ⟨w1.heap.size, 6, none⟩ = some (.int .i64 x.g) ∧ w'.cell? ⟨w1.heap.size, 7, none⟩ = some (.int .i64 x.h) ∧ w'.cell? ⟨w1.heap.size, 8, none⟩ = some (.int .i64 x.r) ∧ w'.cell? ⟨w1.heap.size + 1, 0, none⟩ = some (.int .i64 y.a) ∧ w'.cell? ⟨w1.heap.size + 1, 1, none⟩ = some (.int .i64 y.b) ∧ w'.cell? ⟨w1.heap.size + 1, 2, none⟩ = some (.int .i64 y.c) ∧ w'.cell? ⟨w1.heap.size + 1, 3, none⟩ = some (.int .i64 y.d) ∧ w'.cell? ⟨w1.heap.size + 1, 4, none⟩ = some (.int .i64 y.e) ∧ w'.cell? ⟨w1.heap.size + 1, 5, none⟩ = some (.int .i64 y.f) ∧ w'.cell? ⟨w1.heap.size + 1, 6, none⟩ = some (.int .i64 y.g) ∧ w'.cell? ⟨w1.heap.size + 1, 7, none⟩ = some (.int .i64 y.h) ∧ w'.cell? ⟨w1.heap.size + 1, 8, none⟩ = some (.int .i64 y.r) ∧ w'.cell? ⟨b3, o3 + k * 7, none⟩ = some (.int .i64 p.f) ∧ w'.cell? ⟨b3, o3 + k * 7 + 1, none⟩ = some (.int .i64 p.t) ∧ w'.cell? ⟨b3, o3 + k * 7 + 2, none⟩ = some (.int .i64 p.r) ∧ w'.cell? ⟨b3, o3 + k * 7 + 3, none⟩ = some (.int .i64 p.l) ∧ w'.cell? ⟨b3, o3 + k * 7 + 4, none⟩ = some (.int .i64 p.u) ∧ w'.cell? ⟨b3, o3 + k * 7 + 5, none⟩ = some (.int .i64 p.v) ∧ w'.cell? ⟨b3, o3 + k * 7 + 6, none⟩ = some (.slice p.s p.m p.d))) (by kernel_rfl) (K.out _ (Below.refl _ _).drew) (fun hHeld => ?_)
                  refine wpAnyH_take (i := 0) (oi := _) (v := ?vz81u1) rfl (by kernel_rfl) (by kernel_rfl) (by kernel_rfl) (fun _ _ _ h => h) (Or.inl ⟨by rfl, ?hyz81u1⟩) hHeld ?restz81u1
                  case hyz81u1 => (intro w hSw; (try dsimp only at hSw); go_simp; first | done | with_reducible rfl)
                  try simp only [Act.put, List.getElem_toArray, List.getElem_cons_zero, List.setIfInBounds_toArray, List.set_cons_zero, List.set_cons_succ]
                  refine wpAnyH_take (i := 1) (oi := _) (v := ?vz81u2) rfl (by kernel_rfl) (by kernel_rfl) (by kernel_rfl) (fun _ _ _ h => h) (Or.inl ⟨by rfl, ?hyz81u2⟩) hHeld ?restz81u2
                  case hyz81u2 => (intro w hSw; (try dsimp only at hSw); go_simp; first | done | with_reducible rfl)
                  try simp only [Act.put, List.getElem_toArray, List.getElem_cons_zero, List.getElem_cons_succ, List.setIfInBounds_toArray, List.set_cons_zero, List.set_cons_succ]
                  refine wpAnyH_take (i := 2) (oi := _) (v := ?vz81u3) rfl (by kernel_rfl) (by kernel_rfl) (by kernel_rfl) (fun _ _ _ h => h) (Or.inl ⟨by rfl, ?hyz81u3⟩) hHeld ?restz81u3
                  case hyz81u3 => (intro w hSw; (try dsimp only at hSw); go_simp; first | done | with_reducible rfl)
                  try simp only [Act.put, List.getElem_toArray, List.getElem_cons_zero, List.getElem_cons_succ, List.setIfInBounds_toArray, List.set_cons_zero, List.set_cons_succ]
                  refine wpAnyH_take (i := 3) (oi := _) (v := ?vz81u4) rfl (by kernel_rfl) (by kernel_rfl) (by kernel_rfl) (fun _ _ _ h => h) (Or.inl ⟨by rfl, ?hyz81u4⟩) hHeld ?restz81u4
                  case hyz81u4 => (intro w hSw; (try dsimp only at hSw); go_simp; first | done | with_reducible rfl)
                  try simp only [Act.put, List.getElem_toArray, List.getElem_cons_zero, List.getElem_cons_succ, List.setIfInBounds_toArray, List.set_cons_zero, List.set_cons_succ]
                  refine wpAnyH_take (i := 4) (oi := _) (v := ?vz81u5) rfl (by kernel_rfl) (by kernel_rfl) (by kernel_rfl) (fun _ _ _ h => h) (Or.inl ⟨by rfl, ?hyz81u5⟩) hHeld ?restz81u5
                  case hyz81u5 => (intro w hSw; (try dsimp only at hSw); go_simp; first | done | with_reducible rfl)
                  try simp only [Act.put, List.getElem_toArray, List.getElem_cons_zero, List.getElem_cons_succ, List.setIfInBounds_toArray, List.set_cons_zero, List.set_cons_succ]
                  refine wpAnyH_ready (rs := [5]) (by kernel_rfl) (by simp) ?_
                  refine AllReadyH.cons (o := _) rfl (fun K0 hK0 => ?_) AllReadyH.nil
                  go_simp
                  go_at_call 17
                  refine (C1.out _).mono ?_
                  rintro e wz81v6 ⟨rfl, bz81v6⟩
                  refine hK0.out _ _ (K.out _ (thenB (Below.refl _ _).drew bz81v6)) (fun hHeld => ?_)
                  clear hK0 K0
                  try simp only [Act.put, List.getElem_toArray, List.getElem_cons_zero, List.getElem_cons_succ, List.setIfInBounds_toArray, List.set_cons_zero, List.set_cons_succ]
                  refine wpAnyH_take (i := 6) (oi := _) (v := ?vz81u7) rfl (by kernel_rfl) (by kernel_rfl) (by kernel_rfl) (fun _ _ _ h => h) (Or.inl ⟨by rfl, ?hyz81u7⟩) hHeld ?restz81u7
                  case hyz81u7 => (intro w hSw; (try dsimp only at hSw); go_simp; first | done | with_reducible rfl)
                  try simp only [Act.put, List.getElem_toArray, List.getElem_cons_zero, List.getElem_cons_succ, List.setIfInBounds_toArray, List.set_cons_zero, List.set_cons_succ]
                  refine wpAnyH_take (i := 7) (oi := _) (v := ?vz81u8) rfl (by kernel_rfl) (by kernel_rfl) (by kernel_rfl) (fun _ _ _ h => h) (Or.inl ⟨by rfl, ?hyz81u8⟩) hHeld ?restz81u8
                  case hyz81u8 => (intro w hSw; (try dsimp only at hSw); go_simp; first | done | with_reducible rfl)
                  try simp only [Act.put, List.getElem_toArray, List.getElem_cons_zero, List.getElem_cons_succ, List.setIfInBounds_toArray, List.set_cons_zero, List.set_cons_succ]
                  refine wpAnyH_take (i := 8) (oi := _) (v := ?vz81u9) rfl (by kernel_rfl) (by kernel_rfl) (by kernel_rfl) (fun _ _ _ h => h) (Or.inl ⟨by rfl, ?hyz81u9⟩) hHeld ?restz81u9
                  case hyz81u9 => (intro w hSw; (try dsimp only at hSw); go_simp; first | done | with_reducible rfl)
                  try simp only [Act.put, List.getElem_toArray, List.getElem_cons_zero, List.getElem_cons_succ, List.setIfInBounds_toArray, List.set_cons_zero, List.set_cons_succ]
                  refine wpAnyH_take (i := 9) (oi := _) (v := ?vz81u10) rfl (by kernel_rfl) (by kernel_rfl) (by kernel_rfl) (fun _ _ _ h => h) (Or.inl ⟨by rfl, ?hyz81u10⟩) hHeld ?restz81u10
                  case hyz81u10 => (intro w hSw; (try dsimp only at hSw); go_simp; first | done | with_reducible rfl)
                  try simp only [Act.put, List.getElem_toArray, List.getElem_cons_zero, List.getElem_cons_succ, List.setIfInBounds_toArray, List.set_cons_zero, List.set_cons_succ]
                  refine wpAnyH_take (i := 10) (oi := _) (v := ?vz81u11) rfl (by kernel_rfl) (by kernel_rfl) (by kernel_rfl) (fun _ _ _ h => h) (Or.inl ⟨by rfl, ?hyz81u11⟩) hHeld ?restz81u11
                  case hyz81u11 => (intro w hSw; (try dsimp only at hSw); go_simp; first | done | with_reducible rfl)
                  try simp only [Act.put, List.getElem_toArray, List.getElem_cons_zero, List.getElem_cons_succ, List.setIfInBounds_toArray, List.set_cons_zero, List.set_cons_succ]
                  refine wpAnyH_take (i := 11) (oi := _) (v := ?vz81u12) rfl (by kernel_rfl) (by kernel_rfl) (by kernel_rfl) (fun _ _ _ h => h) (Or.inl ⟨by rfl, ?hyz81u12⟩) hHeld ?restz81u12
                  case hyz81u12 => (intro w hSw; (try dsimp only at hSw); go_simp; first | done | with_reducible rfl)
                  try simp only [Act.put, List.getElem_toArray, List.getElem_cons_zero, List.getElem_cons_succ, List.setIfInBounds_toArray, List.set_cons_zero, List.set_cons_succ]
                  refine wpAnyH_ready (rs := [12]) (by kernel_rfl) (by simp) ?_
                  refine AllReadyH.cons (o := _) rfl (fun K0 hK0 => ?_) AllReadyH.nil
                  go_simp
                  go_at_call 17
                  refine (C2.out _).mono ?_
                  rintro e wz81v13 ⟨rfl, bz81v13⟩
                  refine hK0.out _ _ (K.out _ (thenB (thenB (Below.refl _ _).drew bz81v6) bz81v13)) (fun hHeld => ?_)
                  clear hK0 K0
                  try simp only [Act.put, List.getElem_toArray, List.getElem_cons_zero, List.getElem_cons_succ, List.setIfInBounds_toArray, List.set_cons_zero, List.set_cons_succ]
                  refine wpAnyH_take (i := 13) (oi := _) (v := ?vz81u14) rfl (by kernel_rfl) (by kernel_rfl) (by kernel_rfl) (fun _ _ _ h => h) (Or.inl ⟨by rfl, ?hyz81u14⟩) hHeld ?restz81u14
                  case hyz81u14 => (intro w hSw; (try dsimp only at hSw); go_simp; first | done | with_reducible rfl)
                  try simp only [Act.put, List.getElem_toArray, List.getElem_cons_zero, List.getElem_cons_succ, List.setIfInBounds_toArray, List.set_cons_zero, List.set_cons_succ]
                  refine wpAnyH_take (i := 14) (oi := _) (v := ?vz81u15) rfl (by kernel_rfl) (by kernel_rfl) (by kernel_rfl) (fun _ _ _ h => h) (Or.inl ⟨by rfl, ?hyz81u15⟩) hHeld ?restz81u15
                  case hyz81u15 => (intro w hSw; (try dsimp only at hSw); go_simp; first | done | with_reducible rfl)
                  try simp only [Act.put, List.getElem_toArray, List.getElem_cons_zero, List.getElem_cons_succ, List.setIfInBounds_toArray, List.set_cons_zero, List.set_cons_succ]
                  refine wpAnyH_done (by kernel_rfl) ?_ _
                  clear K hHeld
                  replace VA := VA.kept (thenB (thenB (Below.refl _ _).drew bz81v6) bz81v13)
                  replace VB := VB.kept (thenB (thenB (Below.refl _ _).drew bz81v6) bz81v13)
                  replace VM := VM.kept (thenB (thenB (Below.refl _ _).drew bz81v6) bz81v13)
                  replace RQ := RQ.kept (thenB (thenB (Below.refl _ _).drew bz81v6) bz81v13)
                  replace B := thenB B (thenB (thenB (Below.refl _ _).drew bz81v6) bz81v13)
                  have Sz81 := ((thenB (thenB (Below.refl _ _).drew bz81v6) bz81v13)).size
                  clear bz81v6 bz81v13
                  obtain ⟨s_VA, f_VA, z_VA⟩ := VA.open
                  obtain ⟨s_VB, f_VB, z_VB⟩ := VB.open
                  obtain ⟨s_VM, f_VM, z_VM⟩ := VM.open
                  have Bo := B
                  clear s_VA f_VA z_VA s_VB f_VB z_VB s_VM f_VM z_VM
                  have K : ∀ w' : World, Below wz81v13.heap.size wz81v13 w' → (w'.cell? ⟨w2.heap.size, 0, none⟩ = some (.int .i64 kk) ∧ w'.cell? ⟨w2.heap.size, 1, none⟩ = some (.int .i64 z.a) ∧ w'.cell? ⟨w2.heap.size, 2, none⟩ = some (.int .i64 z.b) ∧ w'.cell? ⟨w2.heap.size, 3, none⟩ = some (.int .i64 z.c) ∧ w'.cell? ⟨w2.heap.size, 4, none⟩ = some (.int .i64 z.d) ∧ w'.cell? ⟨w2.heap.size, 5, none⟩ = some (.int .i64 z.e) ∧ w'.cell? ⟨w2.heap.size, 6, none⟩ = some (.int .i64 z.f) ∧ w'.cell? ⟨w2.heap.size, 7, none⟩ = some (.int .i64 z.g) ∧ w'.cell? ⟨w2.heap.size, 8, none⟩ = some (.int .i64 z.h) ∧ w'.cell? ⟨w2.heap.size, 9, none⟩ = some (.int .i64 z.r)) := fun w' h => ⟨(VM.kept h).2.1 0 (by simp), (VM.kept h).2.1 1 (by simp), (VM.kept h).2.1 2 (by simp), (VM.kept h).2.1 3 (by simp), (VM.kept h).2.1 4 (by simp), (VM.kept h).2.1 5 (by simp), (VM.kept h).2.1 6 (by simp), (VM.kept h).2.1 7 (by simp), (VM.kept h).2.1 8 (by simp), (VM.kept h).2.1 9 (by simp)⟩
                  have K := Hid.mk K
                  go_wp2_with fail
                  refine wp_region_held_drew (S := (fun w' => w'.cell? ⟨w2.heap.size, 0, none⟩ = some (.int .i64 kk) ∧ w'.cell? ⟨w2.heap.size, 1, none⟩ = some (.int .i64 z.a) ∧ w'.cell? ⟨w2.heap.size, 2, none⟩ = some (.int .i64 z.b) ∧ w'.cell? ⟨w2.heap.size, 3, none⟩ = some (.int .i64 z.c) ∧ w'.cell? ⟨w2.heap.size, 4, none⟩ = some (.int .i64 z.d) ∧ w'.cell? ⟨w2.heap.size, 5, none⟩ = some (.int .i64 z.e) ∧ w'.cell? ⟨w2.heap.size, 6, none⟩ = some (.int .i64 z.f) ∧ w'.cell? ⟨w2.heap.size, 7, none⟩ = some (.int .i64 z.g) ∧ w'.cell? ⟨w2.heap.size, 8, none⟩ = some (.int .i64 z.h) ∧ w'.cell? ⟨w2.heap.size, 9, none⟩ = some (.int .i64 z.r))) (by kernel_rfl) (K.out _ (Below.refl _ _).drew) (fun hHeld => ?_)
                  refine wpAnyH_take (i := 0) (oi := _) (v := ?vz82u1) rfl (by kernel_rfl) (by kernel_rfl) (by kernel_rfl) (fun _ _ _ h => h) (Or.inl ⟨by rfl, ?hyz82u1⟩) hHeld ?restz82u1
                  case hyz82u1 => (intro w hSw; (try dsimp only at hSw); go_simp; first | done | with_reducible rfl)
                  try simp only [Act.put, List.getElem_toArray, List.getElem_cons_zero, List.setIfInBounds_toArray, List.set_cons_zero, List.set_cons_succ]
                  refine wpAnyH_take (i := 1) (oi := _) (v := ?vz82u2) rfl (by kernel_rfl) (by kernel_rfl) (by kernel_rfl) (fun _ _ _ h => h) (Or.inl ⟨by rfl, ?hyz82u2⟩) hHeld ?restz82u2
                  case hyz82u2 => (intro w hSw; (try dsimp only at hSw); go_simp; first | done | with_reducible rfl)
                  try simp only [Act.put, List.getElem_toArray, List.getElem_cons_zero, List.getElem_cons_succ, List.setIfInBounds_toArray, List.set_cons_zero, List.set_cons_succ]
                  refine wpAnyH_take (i := 2) (oi := _) (v := ?vz82u3) rfl (by kernel_rfl) (by kernel_rfl) (by kernel_rfl) (fun _ _ _ h => h) (Or.inl ⟨by rfl, ?hyz82u3⟩) hHeld ?restz82u3
                  case hyz82u3 => (intro w hSw; (try dsimp only at hSw); go_simp; first | done | with_reducible rfl)
                  try simp only [Act.put, List.getElem_toArray, List.getElem_cons_zero, List.getElem_cons_succ, List.setIfInBounds_toArray, List.set_cons_zero, List.set_cons_succ]
                  refine wpAnyH_take (i := 3) (oi := _) (v := ?vz82u4) rfl (by kernel_rfl) (by kernel_rfl) (by kernel_rfl) (fun _ _ _ h => h) (Or.inl ⟨by rfl, ?hyz82u4⟩) hHeld ?restz82u4
                  case hyz82u4 => (intro w hSw; (try dsimp only at hSw); go_simp; first | done | with_reducible rfl)
                  try simp only [Act.put, List.getElem_toArray, List.getElem_cons_zero, List.getElem_cons_succ, List.setIfInBounds_toArray, List.set_cons_zero, List.set_cons_succ]
                  refine wpAnyH_take (i := 4) (oi := _) (v := ?vz82u5) rfl (by kernel_rfl) (by kernel_rfl) (by kernel_rfl) (fun _ _ _ h => h) (Or.inl ⟨by rfl, ?hyz82u5⟩) hHeld ?restz82u5
                  case hyz82u5 => (intro w hSw; (try dsimp only at hSw); go_simp; first | done | with_reducible rfl)
                  try simp only [Act.put, List.getElem_toArray, List.getElem_cons_zero, List.getElem_cons_succ, List.setIfInBounds_toArray, List.set_cons_zero, List.set_cons_succ]
                  refine wpAnyH_take (i := 5) (oi := _) (v := undef) rfl (by kernel_rfl) (by kernel_rfl) (by kernel_rfl) (fun _ _ _ h => h) (Or.inr ⟨by rfl, rfl⟩) hHeld ?_
                  try simp only [Act.put, List.getElem_toArray, List.getElem_cons_zero, List.getElem_cons_succ, List.setIfInBounds_toArray, List.set_cons_zero, List.set_cons_succ]
                  refine wpAnyH_take (i := 6) (oi := _) (v := undef) rfl (by kernel_rfl) (by kernel_rfl) (by kernel_rfl) (fun _ _ _ h => h) (Or.inr ⟨by rfl, rfl⟩) hHeld ?_
                  try simp only [Act.put, List.getElem_toArray, List.getElem_cons_zero, List.getElem_cons_succ, List.setIfInBounds_toArray, List.set_cons_zero, List.set_cons_succ]
                  refine wpAnyH_take (i := 7) (oi := _) (v := undef) rfl (by kernel_rfl) (by kernel_rfl) (by kernel_rfl) (fun _ _ _ h => h) (Or.inr ⟨by rfl, rfl⟩) hHeld ?_
                  try simp only [Act.put, List.getElem_toArray, List.getElem_cons_zero, List.getElem_cons_succ, List.setIfInBounds_toArray, List.set_cons_zero, List.set_cons_succ]
                  refine wpAnyH_take (i := 8) (oi := _) (v := undef) rfl (by kernel_rfl) (by kernel_rfl) (by kernel_rfl) (fun _ _ _ h => h) (Or.inr ⟨by rfl, rfl⟩) hHeld ?_
                  try simp only [Act.put, List.getElem_toArray, List.getElem_cons_zero, List.getElem_cons_succ, List.setIfInBounds_toArray, List.set_cons_zero, List.set_cons_succ]
                  refine wpAnyH_take (i := 9) (oi := _) (v := undef) rfl (by kernel_rfl) (by kernel_rfl) (by kernel_rfl) (fun _ _ _ h => h) (Or.inr ⟨by rfl, rfl⟩) hHeld ?_
                  try simp only [Act.put, List.getElem_toArray, List.getElem_cons_zero, List.getElem_cons_succ, List.setIfInBounds_toArray, List.set_cons_zero, List.set_cons_succ]
                  refine wpAnyH_take (i := 10) (oi := _) (v := undef) rfl (by kernel_rfl) (by kernel_rfl) (by kernel_rfl) (fun _ _ _ h => h) (Or.inr ⟨by rfl, rfl⟩) hHeld ?_
                  try simp only [Act.put, List.getElem_toArray, List.getElem_cons_zero, List.getElem_cons_succ, List.setIfInBounds_toArray, List.set_cons_zero, List.set_cons_succ]
                  refine wpAnyH_take (i := 11) (oi := _) (v := undef) rfl (by kernel_rfl) (by kernel_rfl) (by kernel_rfl) (fun _ _ _ h => h) (Or.inr ⟨by rfl, rfl⟩) hHeld ?_
                  try simp only [Act.put, List.getElem_toArray, List.getElem_cons_zero, List.getElem_cons_succ, List.setIfInBounds_toArray, List.set_cons_zero, List.set_cons_succ]
                  refine wpAnyH_take (i := 12) (oi := _) (v := ?vz82u6) rfl (by kernel_rfl) (by kernel_rfl) (by kernel_rfl) (fun _ _ _ h => h) (Or.inl ⟨by rfl, ?hyz82u6⟩) hHeld ?restz82u6
                  case hyz82u6 => (intro w hSw; (try dsimp only at hSw); go_simp; first | done | with_reducible rfl)
                  try simp only [Act.put, List.getElem_toArray, List.getElem_cons_zero, List.getElem_cons_succ, List.setIfInBounds_toArray, List.set_cons_zero, List.set_cons_succ]
                  refine wpAnyH_take (i := 13) (oi := _) (v := ?vz82u7) rfl (by kernel_rfl) (by kernel_rfl) (by kernel_rfl) (fun _ _ _ h => h) (Or.inl ⟨by rfl, ?hyz82u7⟩) hHeld ?restz82u7
                  case hyz82u7 => (intro w hSw; (try dsimp only at hSw); go_simp; first | done | with_reducible rfl)
                  try simp only [Act.put, List.getElem_toArray, List.getElem_cons_zero, List.getElem_cons_succ, List.setIfInBounds_toArray, List.set_cons_zero, List.set_cons_succ]
                  refine wpAnyH_done (by kernel_rfl) ?_ _
                  have bdr : Below wz81v13.heap.size wz81v13 (wz81v13.drew) := (Below.refl _ _).drew
                  clear K hHeld
                  replace VA := VA.kept bdr
                  replace VB := VB.kept bdr
                  replace VM := VM.kept bdr
                  replace RQ := RQ.kept bdr
                  replace B := thenB B bdr
                  clear bdr
                  obtain ⟨s_VA, f_VA, z_VA⟩ := VA.open
                  obtain ⟨s_VB, f_VB, z_VB⟩ := VB.open
                  obtain ⟨s_VM, f_VM, z_VM⟩ := VM.open
                  have Bo := B
                  clear s_VA f_VA z_VA s_VB f_VB z_VB s_VM f_VM z_VM
                  replace VA := Hid.mk VA
                  replace VB := Hid.mk VB
                  replace VM := Hid.mk VM
                  replace RQ := Hid.mk RQ
                  replace B := Hid.mk Bo
                  clear Bo
                  go_wp2
                  go_roundw
                  case rel => exact ⟨k + 1, by omega, by go_num, VA.out, VB.out, VM.out, RQ.out, B.out⟩
                  case measure => simp [intOf]; omega
              · skip
                obtain rfl : k = 3 := by omega
                have C1 := Hid.mk (CA.out ⟨x.a, x.c, r1, 64, x.e, x.g, none, 0, 0⟩)
                rw [hsa.out] at C1
                have hkk : (kk == kk) = true := by simp
                obtain ⟨s_VA, f_VA, z_VA⟩ := VA.open
                obtain ⟨s_VB, f_VB, z_VB⟩ := VB.open
                obtain ⟨s_VM, f_VM, z_VM⟩ := VM.open
                have Bo := B
                obtain ⟨q0, q1, q2, q3, q4, q5, q6⟩ := RdK.at RQ 1 (by omega) _ hp1
                dsimp only at q0 q1 q2 q3 q4 q5 q6
                simp only [Nat.reduceMul] at q0 q1 q2 q3 q4 q5 q6
                have hb3 := World.block_lt_of_cell? (a := ⟨b3, o3 + 7, none⟩) _ q0
                simp only at hb3
                clear s_VA f_VA z_VA s_VB f_VB z_VB s_VM f_VM z_VM
                have K : ∀ w' : World, Below wr.heap.size wr w' → (w'.cell? ⟨w1.heap.size, 0, none⟩ = some (.int .i64 x.a) ∧ w'.cell? ⟨w1.heap.size, 1, none⟩ = some (.int .i64 x.b) ∧ w'.cell? ⟨w1.heap.size, 2, none⟩ = some (.int .i64 x.c) ∧ w'.cell? ⟨w1.heap.size, 3, none⟩ = some (.int .i64 x.d) ∧ w'.cell? ⟨w1.heap.size, 4, none⟩ = some (.int .i64 x.e) ∧ w'.cell? ⟨w1.heap.size, 5, none⟩ = some (.int .i64 x.f) ∧ w'.cell? ⟨w1.heap.size, 6, none⟩ = some (.int .i64 x.g) ∧ w'.cell? ⟨w1.heap.size, 7, none⟩ = some (.int .i64 x.h) ∧ w'.cell? ⟨w1.heap.size, 8, none⟩ = some (.int .i64 x.r) ∧ w'.cell? ⟨w1.heap.size + 1, 0, none⟩ = some (.int .i64 y.a) ∧ w'.cell? ⟨w1.heap.size + 1, 1, none⟩ = some (.int .i64 y.b) ∧ w'.cell? ⟨w1.heap.size + 1, 2, none⟩ = some (.int .i64 y.c) ∧ w'.cell? ⟨w1.heap.size + 1, 3, none⟩ = some (.int .i64 y.d) ∧ w'.cell? ⟨w1.heap.size + 1, 4, none⟩ = some (.int .i64 y.e) ∧ w'.cell? ⟨w1.heap.size + 1, 5, none⟩ = some (.int .i64 y.f) ∧ w'.cell? ⟨w1.heap.size + 1, 6, none⟩ = some (.int .i64 y.g) ∧ w'.cell? ⟨w1.heap.size + 1, 7, none⟩ = some (.int .i64 y.h) ∧ w'.cell? ⟨w1.heap.size + 1, 8, none⟩ = some (.int .i64 y.r) ∧ w'.cell? ⟨w2.heap.size, 0, none⟩ = some (.int .i64 kk) ∧ w'.cell? ⟨w2.heap.size, 1, none⟩ = some (.int .i64 z.a) ∧ w'.cell? ⟨w2.heap.size, 2, none⟩ = some (.int .i64 z.b) ∧ w'.cell? ⟨w2.heap.size, 3, none⟩ = some (.int .i64 z.c) ∧ w'.cell? ⟨w2.heap.size, 4, none⟩ = some (.int .i64 z.d) ∧ w'.cell? ⟨w2.heap.size, 5, none⟩ = some (.int .i64 z.e) ∧ w'.cell? ⟨w2.heap.size, 6, none⟩ = some (.int .i64 z.f) ∧ w'.cell? ⟨w2.heap.size, 7, none⟩ = some (.int .i64 z.g) ∧ w'.cell? ⟨w2.heap.size, 8, none⟩ = some (.int .i64 z.h) ∧ w'.cell? ⟨w2.heap.size, 9, none⟩ = some (.int .i64 z.r) ∧ w'.cell? ⟨b3, o3 + 7, none⟩ = some (.int .i64 x.a) ∧ w'.cell? ⟨b3, o3 + 7 + 1, none⟩ = some (.int .i64 x.c) ∧ w'.cell? ⟨b3, o3 + 7 + 2, none⟩ = some (.int .i64 r1) ∧ w'.cell? ⟨b3, o3 + 7 + 3, none⟩ = some (.int .i64 64) ∧ w'.cell? ⟨b3, o3 + 7 + 4, none⟩ = some (.int .i64 x.e) ∧ w'.cell? ⟨b3, o3 + 7 + 5, none⟩ = some (.int .i64 x.g) ∧ w'.cell? ⟨b3, o3 + 7 + 6, none⟩ = some (.slice none 0 0)) := fun w' h => ⟨(VA.kept h).2.1 0 (by simp), (VA.kept h).2.1 1 (by simp), (VA.kept h).2.1 2 (by simp), (VA.kept h).2.1 3 (by simp), (VA.kept h).2.1 4 (by simp), (VA.kept h).2.1 5 (by simp), (VA.kept h).2.1 6 (by simp), (VA.kept h).2.1 7 (by simp), (VA.kept h).2.1 8 (by simp), (VB.kept h).2.1 0 (by simp), (VB.kept h).2.1 1 (by simp), (VB.kept h).2.1 2 (by simp), (VB.kept h).2.1 3 (by simp), (VB.kept h).2.1 4 (by simp), (VB.kept h).2.1 5 (by simp), (VB.kept h).2.1 6 (by simp), (VB.kept h).2.1 7 (by simp), (VB.kept h).2.1 8 (by simp), (VM.kept h).2.1 0 (by simp), (VM.kept h).2.1 1 (by simp), (VM.kept h).2.1 2 (by simp), (VM.kept h).2.1 3 (by simp), (VM.kept h).2.1 4 (by simp), (VM.kept h).2.1 5 (by simp), (VM.kept h).2.1 6 (by simp), (VM.kept h).2.1 7 (by simp), (VM.kept h).2.1 8 (by simp), (VM.kept h).2.1 9 (by simp), ((bcell h).1 _ _ hb3).trans q0, ((bcell h).1 _ _ hb3).trans q1, ((bcell h).1 _ _ hb3).trans q2, ((bcell h).1 _ _ hb3).trans q3, ((bcell h).1 _ _ hb3).trans q4, ((bcell h).1 _ _ hb3).trans q5, ((bcell h).1 _ _ hb3).trans q6⟩
                have K := Hid.mk K
                clear q0 q1 q2 q3 q4 q5 q6
                go_wp2_with fail
                refine wp_region_held_drew (S := (fun w' => w'.cell? ⟨w1.heap.size, 0, none⟩ = some (.int .i64 x.a) ∧ w'.cell? ⟨w1.heap.size, 1, none⟩ = some (.int .i64 x.b) ∧ w'.cell? ⟨w1.heap.size, 2, none⟩ = some (.int .i64 x.c) ∧ w'.cell? ⟨w1.heap.size, 3, none⟩ = some (.int .i64 x.d) ∧ w'.cell? ⟨w1.heap.size, 4, none⟩ = some (.int .i64 x.e) ∧ w'.cell? ⟨w1.heap.size, 5, none⟩ = some (.int .i64 x.f) ∧ w'.cell? ⟨w1.heap.size, 6, none⟩ = some (.int .i64 x.g) ∧ w'.cell? ⟨w1.heap.size, 7, none⟩ = some (.int .i64 x.h) ∧ w'.cell? ⟨w1.heap.size, 8, none⟩ = some (.int .i64 x.r) ∧ w'.cell? ⟨w1.heap.size + 1, 0, none⟩ = some (.int .i64 y.a) ∧ w'.cell? ⟨w1.heap.size + 1, 1, none⟩ = some (.int .i64 y.b) ∧ w'.cell? ⟨w1.heap.size + 1, 2, none⟩ = some (.int .i64 y.c) ∧ w'.cell? ⟨w1.heap.size + 1, 3, none⟩ = some (.int .i64 y.d) ∧ w'.cell? ⟨w1.heap.size + 1, 4, none⟩ = some (.int .i64 y.e) ∧ w'.cell? ⟨w1.heap.size + 1, 5, none⟩ = some (.int .i64 y.f) ∧ w'.cell? ⟨w1.heap.size + 1, 6, none⟩ = some (.int .i64 y.g) ∧ w'.cell? ⟨w1.heap.size + 1, 7, none⟩ = some (.int .i64 y.h) ∧ w'.cell? ⟨w1.heap.size + 1, 8, none⟩ = some (.int .i64 y.r) ∧ w'.cell? ⟨w2.heap.size, 0, none⟩ = some (.int .i64 kk) ∧ w'.cell? ⟨w2.heap.size, 1, none⟩ = some (.int .i64 z.a) ∧ w'.cell? ⟨w2.heap.size, 2, none⟩ = some (.int .i64 z.b) ∧ w'.cell? ⟨w2.heap.size, 3, none⟩ = some (.int .i64 z.c) ∧ w'.cell? ⟨w2.heap.size, 4, none⟩ = some (.int .i64 z.d) ∧ w'.cell? ⟨w2.heap.size, 5, none⟩ = some (.int .i64 z.e) ∧ w'.cell? ⟨w2.heap.size, 6, none⟩ = some (.int .i64 z.f) ∧ w'.cell? ⟨w2.heap.size, 7, none⟩ = some (.int .i64 z.g) ∧ w'.cell? ⟨w2.heap.size, 8, none⟩ = some (.int .i64 z.h) ∧ w'.cell? ⟨w2.heap.size, 9, none⟩ = some (.int .i64 z.r) ∧ w'.cell? ⟨b3, o3 + 7, none⟩ = some (.int .i64 x.a) ∧ w'.cell? ⟨b3, o3 + 7 + 1, none⟩ = some (.int .i64 x.c) ∧ w'.cell? ⟨b3, o3 + 7 + 2, none⟩ = some (.int .i64 r1) ∧ w'.cell? ⟨b3, o3 + 7 + 3, none⟩ = some (.int .i64 64) ∧ w'.cell? ⟨b3, o3 + 7 + 4, none⟩ = some (.int .i64 x.e) ∧ w'.cell? ⟨b3, o3 + 7 + 5, none⟩ = some (.int .i64 x.g) ∧ w'.cell? ⟨b3, o3 + 7 + 6, none⟩ = some (.slice none 0 0))) (by kernel_rfl) (K.out _ (Below.refl _ _).drew) (fun hHeld => ?_)
                refine wpAnyH_take (i := 0) (oi := _) (v := ?vz96u1) rfl (by kernel_rfl) (by kernel_rfl) (by kernel_rfl) (fun _ _ _ h => h) (Or.inl ⟨by rfl, ?hyz96u1⟩) hHeld ?restz96u1
                case hyz96u1 => (intro w hSw; (try dsimp only at hSw); go_simp; first | done | with_reducible rfl)
                try simp only [Act.put, List.getElem_toArray, List.getElem_cons_zero, List.setIfInBounds_toArray, List.set_cons_zero, List.set_cons_succ]
                refine wpAnyH_take (i := 1) (oi := _) (v := ?vz96u2) rfl (by kernel_rfl) (by kernel_rfl) (by kernel_rfl) (fun _ _ _ h => h) (Or.inl ⟨by rfl, ?hyz96u2⟩) hHeld ?restz96u2
                case hyz96u2 => (intro w hSw; (try dsimp only at hSw); go_simp; first | done | with_reducible rfl)
                try simp only [Act.put, List.getElem_toArray, List.getElem_cons_zero, List.getElem_cons_succ, List.setIfInBounds_toArray, List.set_cons_zero, List.set_cons_succ]
                refine wpAnyH_take (i := 2) (oi := _) (v := ?vz96u3) rfl (by kernel_rfl) (by kernel_rfl) (by kernel_rfl) (fun _ _ _ h => h) (Or.inl ⟨by rfl, ?hyz96u3⟩) hHeld ?restz96u3
                case hyz96u3 => (intro w hSw; (try dsimp only at hSw); go_simp; first | done | with_reducible rfl)
                try simp only [Act.put, List.getElem_toArray, List.getElem_cons_zero, List.getElem_cons_succ, List.setIfInBounds_toArray, List.set_cons_zero, List.set_cons_succ]
                refine wpAnyH_take (i := 3) (oi := _) (v := ?vz96u4) rfl (by kernel_rfl) (by kernel_rfl) (by kernel_rfl) (fun _ _ _ h => h) (Or.inl ⟨by rfl, ?hyz96u4⟩) hHeld ?restz96u4
                case hyz96u4 => (intro w hSw; (try dsimp only at hSw); go_simp; first | done | with_reducible rfl)
                try simp only [Act.put, List.getElem_toArray, List.getElem_cons_zero, List.getElem_cons_succ, List.setIfInBounds_toArray, List.set_cons_zero, List.set_cons_succ]
                refine wpAnyH_ready (rs := [4]) (by kernel_rfl) (by simp) ?_
                refine AllReadyH.cons (o := _) rfl (fun K0 hK0 => ?_) AllReadyH.nil
                go_simp
                go_at_call 17
                refine (C1.out _).mono ?_
                rintro e wz96v5 ⟨rfl, bz96v5⟩
                refine hK0.out _ _ (K.out _ (thenB (Below.refl _ _).drew bz96v5)) (fun hHeld => ?_)
                clear hK0 K0
                try simp only [Act.put, List.getElem_toArray, List.getElem_cons_zero, List.getElem_cons_succ, List.setIfInBounds_toArray, List.set_cons_zero, List.set_cons_succ]
                refine wpAnyH_take (i := 5) (oi := _) (v := ?vz96u6) rfl (by kernel_rfl) (by kernel_rfl) (by kernel_rfl) (fun _ _ _ h => h) (Or.inl ⟨by rfl, ?hyz96u6⟩) hHeld ?restz96u6
                case hyz96u6 => (intro w hSw; (try dsimp only at hSw); go_simp; first | done | with_reducible rfl)
                try simp only [Act.put, List.getElem_toArray, List.getElem_cons_zero, List.getElem_cons_succ, List.setIfInBounds_toArray, List.set_cons_zero, List.set_cons_succ]
                refine wpAnyH_take (i := 6) (oi := _) (v := ?vz96u7) rfl (by kernel_rfl) (by kernel_rfl) (by kernel_rfl) (fun _ _ _ h => h) (Or.inl ⟨by rfl, ?hyz96u7⟩) hHeld ?restz96u7
                case hyz96u7 => (intro w hSw; (try dsimp only at hSw); go_simp; first | done | with_reducible rfl)
                try simp only [Act.put, List.getElem_toArray, List.getElem_cons_zero, List.getElem_cons_succ, List.setIfInBounds_toArray, List.set_cons_zero, List.set_cons_succ]
                refine wpAnyH_take (i := 7) (oi := _) (v := ?vz96u8) rfl (by kernel_rfl) (by kernel_rfl) (by kernel_rfl) (fun _ _ _ h => h) (Or.inl ⟨by rfl, ?hyz96u8⟩) hHeld ?restz96u8
                case hyz96u8 => (intro w hSw; (try dsimp only at hSw); go_simp; first | done | with_reducible rfl)
                try simp only [Act.put, List.getElem_toArray, List.getElem_cons_zero, List.getElem_cons_succ, List.setIfInBounds_toArray, List.set_cons_zero, List.set_cons_succ]
                refine wpAnyH_ready (rs := [8]) (by kernel_rfl) (by simp) ?_
                refine AllReadyH.cons (o := _) rfl (fun K0 hK0 => ?_) AllReadyH.nil
                go_simp
                go_at_call 18
                refine (CW.out _).mono ?_
                rintro e wz96v9 ⟨rfl, bz96v9⟩
                refine hK0.out _ _ (K.out _ (thenB (thenB (Below.refl _ _).drew bz96v5) bz96v9)) (fun hHeld => ?_)
                clear hK0 K0
                try simp only [Act.put, List.getElem_toArray, List.getElem_cons_zero, List.getElem_cons_succ, List.setIfInBounds_toArray, List.set_cons_zero, List.set_cons_succ]
                refine wpAnyH_take (i := 9) (oi := _) (v := ?vz96u10) rfl (by kernel_rfl) (by kernel_rfl) (by kernel_rfl) (fun _ _ _ h => h) (Or.inl ⟨by rfl, ?hyz96u10⟩) hHeld ?restz96u10
                case hyz96u10 => (intro w hSw; (try dsimp only at hSw); go_simp; first | done | with_reducible rfl)
                try simp only [Act.put, List.getElem_toArray, List.getElem_cons_zero, List.getElem_cons_succ, List.setIfInBounds_toArray, List.set_cons_zero, List.set_cons_succ]
                refine wpAnyH_take (i := 10) (oi := _) (v := ?vz96u11) rfl (by kernel_rfl) (by kernel_rfl) (by kernel_rfl) (fun _ _ _ h => h) (Or.inl ⟨by rfl, ?hyz96u11⟩) hHeld ?restz96u11
                case hyz96u11 => (intro w hSw; (try dsimp only at hSw); go_simp; first | done | with_reducible rfl)
                try simp only [Act.put, List.getElem_toArray, List.getElem_cons_zero, List.getElem_cons_succ, List.setIfInBounds_toArray, List.set_cons_zero, List.set_cons_succ]
                refine wpAnyH_take (i := 11) (oi := _) (v := ?vz96u12) rfl (by kernel_rfl) (by kernel_rfl) (by kernel_rfl) (fun _ _ _ h => h) (Or.inl ⟨by rfl, ?hyz96u12⟩) hHeld ?restz96u12
                case hyz96u12 => (intro w hSw; (try dsimp only at hSw); go_simp; first | done | with_reducible rfl)
                try simp only [Act.put, List.getElem_toArray, List.getElem_cons_zero, List.getElem_cons_succ, List.setIfInBounds_toArray, List.set_cons_zero, List.set_cons_succ]
                refine wpAnyH_take (i := 12) (oi := _) (v := ?vz96u13) rfl (by kernel_rfl) (by kernel_rfl) (by kernel_rfl) (fun _ _ _ h => h) (Or.inl ⟨by rfl, ?hyz96u13⟩) hHeld ?restz96u13
                case hyz96u13 => (intro w hSw; (try dsimp only at hSw); go_simp; first | done | with_reducible rfl)
                try simp only [Act.put, List.getElem_toArray, List.getElem_cons_zero, List.getElem_cons_succ, List.setIfInBounds_toArray, List.set_cons_zero, List.set_cons_succ]
                refine wpAnyH_take (i := 13) (oi := _) (v := ?vz96u14) rfl (by kernel_rfl) (by kernel_rfl) (by kernel_rfl) (fun _ _ _ h => h) (Or.inl ⟨by rfl, ?hyz96u14⟩) hHeld ?restz96u14
                case hyz96u14 => (intro w hSw; (try dsimp only at hSw); go_simp; first | done | with_reducible rfl)
                try simp only [Act.put, List.getElem_toArray, List.getElem_cons_zero, List.getElem_cons_succ, List.setIfInBounds_toArray, List.set_cons_zero, List.set_cons_succ]
                refine wpAnyH_take (i := 14) (oi := _) (v := ?vz96u15) rfl (by kernel_rfl) (by kernel_rfl) (by kernel_rfl) (fun _ _ _ h => h) (Or.inl ⟨by rfl, ?hyz96u15⟩) hHeld ?restz96u15
                case hyz96u15 => (intro w hSw; (try dsimp only at hSw); go_simp; first | done | with_reducible rfl)
                try simp only [Act.put, List.getElem_toArray, List.getElem_cons_zero, List.getElem_cons_succ, List.setIfInBounds_toArray, List.set_cons_zero, List.set_cons_succ]
                refine wpAnyH_ready (rs := [15]) (by kernel_rfl) (by simp) ?_
                refine AllReadyH.cons (o := _) rfl (fun K0 hK0 => ?_) AllReadyH.nil
                go_simp
                go_at_call 11
                refine (CN.out _).mono ?_
                rintro e wz96v16 ⟨rfl, bz96v16⟩
                refine hK0.out _ _ (K.out _ (thenB (thenB (thenB (Below.refl _ _).drew bz96v5) bz96v9) bz96v16)) (fun hHeld => ?_)
                clear hK0 K0
                try simp only [Act.put, List.getElem_toArray, List.getElem_cons_zero, List.getElem_cons_succ, List.setIfInBounds_toArray, List.set_cons_zero, List.set_cons_succ]
                refine wpAnyH_take (i := 16) (oi := _) (v := ?vz96u17) rfl (by kernel_rfl) (by kernel_rfl) (by kernel_rfl) (fun _ _ _ h => h) (Or.inl ⟨by rfl, ?hyz96u17⟩) hHeld ?restz96u17
                case hyz96u17 => (intro w hSw; (try dsimp only at hSw); go_simp; first | done | with_reducible rfl)
                try simp only [Act.put, List.getElem_toArray, List.getElem_cons_zero, List.getElem_cons_succ, List.setIfInBounds_toArray, List.set_cons_zero, List.set_cons_succ]
                refine wpAnyH_take (i := 17) (oi := _) (v := ?vz96u18) rfl (by kernel_rfl) (by kernel_rfl) (by kernel_rfl) (fun _ _ _ h => h) (Or.inl ⟨by rfl, ?hyz96u18⟩) hHeld ?restz96u18
                case hyz96u18 => (intro w hSw; (try dsimp only at hSw); go_simp; first | done | with_reducible rfl)
                try simp only [Act.put, List.getElem_toArray, List.getElem_cons_zero, List.getElem_cons_succ, List.setIfInBounds_toArray, List.set_cons_zero, List.set_cons_succ]
                refine wpAnyH_take (i := 18) (oi := _) (v := ?vz96u19) rfl (by kernel_rfl) (by kernel_rfl) (by kernel_rfl) (fun _ _ _ h => h) (Or.inl ⟨by rfl, ?hyz96u19⟩) hHeld ?restz96u19
                case hyz96u19 => (intro w hSw; (try dsimp only at hSw); go_simp; first | done | with_reducible rfl)
                try simp only [Act.put, List.getElem_toArray, List.getElem_cons_zero, List.getElem_cons_succ, List.setIfInBounds_toArray, List.set_cons_zero, List.set_cons_succ]
                refine wpAnyH_take (i := 19) (oi := _) (v := ?vz96u20) rfl (by kernel_rfl) (by kernel_rfl) (by kernel_rfl) (fun _ _ _ h => h) (Or.inl ⟨by rfl, ?hyz96u20⟩) hHeld ?restz96u20
                case hyz96u20 => (intro w hSw; (try dsimp only at hSw); go_simp; first | done | with_reducible rfl)
                try simp only [Act.put, List.getElem_toArray, List.getElem_cons_zero, List.getElem_cons_succ, List.setIfInBounds_toArray, List.set_cons_zero, List.set_cons_succ]
                refine wpAnyH_done (by kernel_rfl) ?_ _
                clear K hHeld
                replace VA := VA.kept (thenB (thenB (thenB (Below.refl _ _).drew bz96v5) bz96v9) bz96v16)
                replace VB := VB.kept (thenB (thenB (thenB (Below.refl _ _).drew bz96v5) bz96v9) bz96v16)
                replace VM := VM.kept (thenB (thenB (thenB (Below.refl _ _).drew bz96v5) bz96v9) bz96v16)
                replace RQ := RQ.kept (thenB (thenB (thenB (Below.refl _ _).drew bz96v5) bz96v9) bz96v16)
                replace B := thenB B (thenB (thenB (thenB (Below.refl _ _).drew bz96v5) bz96v9) bz96v16)
                have Sz96 := ((thenB (thenB (thenB (Below.refl _ _).drew bz96v5) bz96v9) bz96v16)).size
                clear bz96v5 bz96v9 bz96v16
                obtain ⟨s_VA, f_VA, z_VA⟩ := VA.open
                obtain ⟨s_VB, f_VB, z_VB⟩ := VB.open
                obtain ⟨s_VM, f_VM, z_VM⟩ := VM.open
                have Bo := B
                go_wp2
                go_ret
                exact ⟨rfl, Bo⟩
      · skip
        have hy1 : (sfC y != 0) = true := by simp [hy]
        rw [hx] at CX
        obtain ⟨s_VA, f_VA, z_VA⟩ := VA.open
        obtain ⟨s_VB, f_VB, z_VB⟩ := VB.open
        obtain ⟨s_VM, f_VM, z_VM⟩ := VM.open
        have Bo := B
        have CS := Hid.mk (fun w => specMeetSels_ok x y w)
        have hk : (mtC x y == mtC x y) = true := by simp
        go_wp2_with fail
        refine (CX.out _).mono ?_
        rintro e w3 ⟨rfl, b3⟩
        clear s_VA f_VA z_VA s_VB f_VB z_VB s_VM f_VM z_VM
        have S3 := b3.size
        simp only [World.size_alloc] at S3
        replace VA := VA.kept b3
        replace VB := VB.kept b3
        replace VM := VM.kept b3
        replace R := R.kept b3
        replace B := thenB B b3
        clear b3
        obtain ⟨s_VA, f_VA, z_VA⟩ := VA.open
        obtain ⟨s_VB, f_VB, z_VB⟩ := VB.open
        obtain ⟨s_VM, f_VM, z_VM⟩ := VM.open
        have Bo := B
        go_wp2_with fail
        refine (CY.out _).mono ?_
        rintro e w4 ⟨rfl, b4⟩
        clear s_VA f_VA z_VA s_VB f_VB z_VB s_VM f_VM z_VM
        have S4 := b4.size
        replace VA := VA.kept b4
        replace VB := VB.kept b4
        replace VM := VM.kept b4
        replace R := R.kept b4
        replace B := thenB B b4
        clear b4
        obtain ⟨s_VA, f_VA, z_VA⟩ := VA.open
        obtain ⟨s_VB, f_VB, z_VB⟩ := VB.open
        obtain ⟨s_VM, f_VM, z_VM⟩ := VM.open
        have Bo := B
        clear s_VA f_VA z_VA s_VB f_VB z_VB s_VM f_VM z_VM
        have K : ∀ w' : World, Below w4.heap.size w4 w' → (w'.cell? ⟨w1.heap.size, 0, none⟩ = some (.int .i64 x.a) ∧ w'.cell? ⟨w1.heap.size, 1, none⟩ = some (.int .i64 x.b) ∧ w'.cell? ⟨w1.heap.size, 2, none⟩ = some (.int .i64 x.c) ∧ w'.cell? ⟨w1.heap.size, 3, none⟩ = some (.int .i64 x.d) ∧ w'.cell? ⟨w1.heap.size, 4, none⟩ = some (.int .i64 x.e) ∧ w'.cell? ⟨w1.heap.size, 5, none⟩ = some (.int .i64 x.f) ∧ w'.cell? ⟨w1.heap.size, 6, none⟩ = some (.int .i64 x.g) ∧ w'.cell? ⟨w1.heap.size, 7, none⟩ = some (.int .i64 x.h) ∧ w'.cell? ⟨w1.heap.size, 8, none⟩ = some (.int .i64 x.r) ∧ w'.cell? ⟨w1.heap.size + 1, 0, none⟩ = some (.int .i64 y.a) ∧ w'.cell? ⟨w1.heap.size + 1, 1, none⟩ = some (.int .i64 y.b) ∧ w'.cell? ⟨w1.heap.size + 1, 2, none⟩ = some (.int .i64 y.c) ∧ w'.cell? ⟨w1.heap.size + 1, 3, none⟩ = some (.int .i64 y.d) ∧ w'.cell? ⟨w1.heap.size + 1, 4, none⟩ = some (.int .i64 y.e) ∧ w'.cell? ⟨w1.heap.size + 1, 5, none⟩ = some (.int .i64 y.f) ∧ w'.cell? ⟨w1.heap.size + 1, 6, none⟩ = some (.int .i64 y.g) ∧ w'.cell? ⟨w1.heap.size + 1, 7, none⟩ = some (.int .i64 y.h) ∧ w'.cell? ⟨w1.heap.size + 1, 8, none⟩ = some (.int .i64 y.r) ∧ w'.cell? ⟨w2.heap.size, 0, none⟩ = some (.int .i64 (mtC x y)) ∧ w'.cell? ⟨w2.heap.size, 1, none⟩ = some (.int .i64 (mtS x y).a) ∧ w'.cell? ⟨w2.heap.size, 2, none⟩ = some (.int .i64 (mtS x y).b) ∧ w'.cell? ⟨w2.heap.size, 3, none⟩ = some (.int .i64 (mtS x y).c) ∧ w'.cell? ⟨w2.heap.size, 4, none⟩ = some (.int .i64 (mtS x y).d) ∧ w'.cell? ⟨w2.heap.size, 5, none⟩ = some (.int .i64 (mtS x y).e) ∧ w'.cell? ⟨w2.heap.size, 6, none⟩ = some (.int .i64 (mtS x y).f) ∧ w'.cell? ⟨w2.heap.size, 7, none⟩ = some (.int .i64 (mtS x y).g) ∧ w'.cell? ⟨w2.heap.size, 8, none⟩ = some (.int .i64 (mtS x y).h) ∧ w'.cell? ⟨w2.heap.size, 9, none⟩ = some (.int .i64 (mtS x y).r)) := fun w' h => ⟨(VA.kept h).2.1 0 (by simp), (VA.kept h).2.1 1 (by simp), (VA.kept h).2.1 2 (by simp), (VA.kept h).2.1 3 (by simp), (VA.kept h).2.1 4 (by simp), (VA.kept h).2.1 5 (by simp), (VA.kept h).2.1 6 (by simp), (VA.kept h).2.1 7 (by simp), (VA.kept h).2.1 8 (by simp), (VB.kept h).2.1 0 (by simp), (VB.kept h).2.1 1 (by simp), (VB.kept h).2.1 2 (by simp), (VB.kept h).2.1 3 (by simp), (VB.kept h).2.1 4 (by simp), (VB.kept h).2.1 5 (by simp), (VB.kept h).2.1 6 (by simp), (VB.kept h).2.1 7 (by simp), (VB.kept h).2.1 8 (by simp), (VM.kept h).2.1 0 (by simp), (VM.kept h).2.1 1 (by simp), (VM.kept h).2.1 2 (by simp), (VM.kept h).2.1 3 (by simp), (VM.kept h).2.1 4 (by simp), (VM.kept h).2.1 5 (by simp), (VM.kept h).2.1 6 (by simp), (VM.kept h).2.1 7 (by simp), (VM.kept h).2.1 8 (by simp), (VM.kept h).2.1 9 (by simp)⟩
        have K := Hid.mk K
        go_wp2_with fail
        refine wp_region_held_drew (S := (fun w' => w'.cell? ⟨w1.heap.size, 0, none⟩ = some (.int .i64 x.a) ∧ w'.cell? ⟨w1.heap.size, 1, none⟩ = some (.int .i64 x.b) ∧ w'.cell? ⟨w1.heap.size, 2, none⟩ = some (.int .i64 x.c) ∧ w'.cell? ⟨w1.heap.size, 3, none⟩ = some (.int .i64 x.d) ∧ w'.cell? ⟨w1.heap.size, 4, none⟩ = some (.int .i64 x.e) ∧ w'.cell? ⟨w1.heap.size, 5, none⟩ = some (.int .i64 x.f) ∧ w'.cell? ⟨w1.heap.size, 6, none⟩ = some (.int .i64 x.g) ∧ w'.cell? ⟨w1.heap.size, 7, none⟩ = some (.int .i64 x.h) ∧ w'.cell? ⟨w1.heap.size, 8, none⟩ = some (.int .i64 x.r) ∧ w'.cell? ⟨w1.heap.size + 1, 0, none⟩ = some (.int .i64 y.a) ∧ w'.cell? ⟨w1.heap.size + 1, 1, none⟩ = some (.int .i64 y.b) ∧ w'.cell? ⟨w1.heap.size + 1, 2, none⟩ = some (.int .i64 y.c) ∧ w'.cell? ⟨w1.heap.size + 1, 3, none⟩ = some (.int .i64 y.d) ∧ w'.cell? ⟨w1.heap.size + 1, 4, none⟩ = some (.int .i64 y.e) ∧ w'.cell? ⟨w1.heap.size + 1, 5, none⟩ = some (.int .i64 y.f) ∧ w'.cell? ⟨w1.heap.size + 1, 6, none⟩ = some (.int .i64 y.g) ∧ w'.cell? ⟨w1.heap.size + 1, 7, none⟩ = some (.int .i64 y.h) ∧ w'.cell? ⟨w1.heap.size + 1, 8, none⟩ = some (.int .i64 y.r) ∧ w'.cell? ⟨w2.heap.size, 0, none⟩ = some (.int .i64 (mtC x y)) ∧ w'.cell? ⟨w2.heap.size, 1, none⟩ = some (.int .i64 (mtS x y).a) ∧ w'.cell? ⟨w2.heap.size, 2, none⟩ = some (.int .i64 (mtS x y).b) ∧ w'.cell? ⟨w2.heap.size, 3, none⟩ = some (.int .i64 (mtS x y).c) ∧ w'.cell? ⟨w2.heap.size, 4, none⟩ = some (.int .i64 (mtS x y).d) ∧ w'.cell? ⟨w2.heap.size, 5, none⟩ = some (.int .i64 (mtS x y).e) ∧ w'.cell? ⟨w2.heap.size, 6, none⟩ = some (.int .i64 (mtS x y).f) ∧ w'.cell? ⟨w2.heap.size, 7, none⟩ = some (.int .i64 (mtS x y).g) ∧ w'.cell? ⟨w2.heap.size, 8, none⟩ = some (.int .i64 (mtS x y).h) ∧ w'.cell? ⟨w2.heap.size, 9, none⟩ = some (.int .i64 (mtS x y).r))) (by kernel_rfl) (K.out _ (Below.refl _ _).drew) (fun hHeld => ?_)
        refine wpAnyH_take (i := 0) (oi := _) (v := ?vz21u1) rfl (by kernel_rfl) (by kernel_rfl) (by kernel_rfl) (fun _ _ _ h => h) (Or.inl ⟨by rfl, ?hyz21u1⟩) hHeld ?restz21u1
        case hyz21u1 => (intro w hSw; (try dsimp only at hSw); go_simp; first | done | with_reducible rfl)
        try simp only [Act.put, List.getElem_toArray, List.getElem_cons_zero, List.setIfInBounds_toArray, List.set_cons_zero, List.set_cons_succ]
        refine wpAnyH_take (i := 1) (oi := _) (v := ?vz21u2) rfl (by kernel_rfl) (by kernel_rfl) (by kernel_rfl) (fun _ _ _ h => h) (Or.inl ⟨by rfl, ?hyz21u2⟩) hHeld ?restz21u2
        case hyz21u2 => (intro w hSw; (try dsimp only at hSw); go_simp; first | done | with_reducible rfl)
        try simp only [Act.put, List.getElem_toArray, List.getElem_cons_zero, List.getElem_cons_succ, List.setIfInBounds_toArray, List.set_cons_zero, List.set_cons_succ]
        refine wpAnyH_take (i := 4) (oi := _) (v := ?vz21u3) rfl (by kernel_rfl) (by kernel_rfl) (by kernel_rfl) (fun _ _ _ h => h) (Or.inl ⟨by rfl, ?hyz21u3⟩) hHeld ?restz21u3
        case hyz21u3 => (intro w hSw; (try dsimp only at hSw); go_simp; first | done | with_reducible rfl)
        try simp only [Act.put, List.getElem_toArray, List.getElem_cons_zero, List.getElem_cons_succ, List.setIfInBounds_toArray, List.set_cons_zero, List.set_cons_succ]
        refine wpAnyH_take (i := 5) (oi := _) (v := ?vz21u4) rfl (by kernel_rfl) (by kernel_rfl) (by kernel_rfl) (fun _ _ _ h => h) (Or.inl ⟨by rfl, ?hyz21u4⟩) hHeld ?restz21u4
        case hyz21u4 => (intro w hSw; (try dsimp only at hSw); go_simp; first | done | with_reducible rfl)
        try simp only [Act.put, List.getElem_toArray, List.getElem_cons_zero, List.getElem_cons_succ, List.setIfInBounds_toArray, List.set_cons_zero, List.set_cons_succ]
        refine wpAnyH_ready (rs := [2]) (by kernel_rfl) (by simp) ?_
        refine AllReadyH.cons (o := _) rfl (fun K0 hK0 => ?_) AllReadyH.nil
        go_simp
        go_at_call 13
        refine (CS.out _).mono ?_
        rintro e wz21v5 ⟨rfl, bz21v5⟩
        refine hK0.out _ _ (K.out _ (thenB (Below.refl _ _).drew bz21v5)) (fun hHeld => ?_)
        clear hK0 K0
        try simp only [Act.put, List.getElem_toArray, List.getElem_cons_zero, List.getElem_cons_succ, List.setIfInBounds_toArray, List.set_cons_zero, List.set_cons_succ]
        refine wpAnyH_take (i := 3) (oi := _) (v := ?vz21u6) rfl (by kernel_rfl) (by kernel_rfl) (by kernel_rfl) (fun _ _ _ h => h) (Or.inl ⟨by rfl, ?hyz21u6⟩) hHeld ?restz21u6
        case hyz21u6 => (intro w hSw; (try dsimp only at hSw); go_simp; first | done | with_reducible rfl)
        try simp only [Act.put, List.getElem_toArray, List.getElem_cons_zero, List.getElem_cons_succ, List.setIfInBounds_toArray, List.set_cons_zero, List.set_cons_succ]
        refine wpAnyH_take (i := 6) (oi := _) (v := ?vz21u7) rfl (by kernel_rfl) (by kernel_rfl) (by kernel_rfl) (fun _ _ _ h => h) (Or.inl ⟨by rfl, ?hyz21u7⟩) hHeld ?restz21u7
        case hyz21u7 => (intro w hSw; (try dsimp only at hSw); go_simp; first | done | with_reducible rfl)
        try simp only [Act.put, List.getElem_toArray, List.getElem_cons_zero, List.getElem_cons_succ, List.setIfInBounds_toArray, List.set_cons_zero, List.set_cons_succ]
        refine wpAnyH_take (i := 7) (oi := _) (v := ?vz21u8) rfl (by kernel_rfl) (by kernel_rfl) (by kernel_rfl) (fun _ _ _ h => h) (Or.inl ⟨by rfl, ?hyz21u8⟩) hHeld ?restz21u8
        case hyz21u8 => (intro w hSw; (try dsimp only at hSw); go_simp; first | done | with_reducible rfl)
        try simp only [Act.put, List.getElem_toArray, List.getElem_cons_zero, List.getElem_cons_succ, List.setIfInBounds_toArray, List.set_cons_zero, List.set_cons_succ]
        refine wpAnyH_done (by kernel_rfl) ?_ _
        clear K hHeld
        replace VA := VA.kept (thenB (Below.refl _ _).drew bz21v5)
        replace VB := VB.kept (thenB (Below.refl _ _).drew bz21v5)
        replace VM := VM.kept (thenB (Below.refl _ _).drew bz21v5)
        replace R := R.kept (thenB (Below.refl _ _).drew bz21v5)
        replace B := thenB B (thenB (Below.refl _ _).drew bz21v5)
        have Sz21 := ((thenB (Below.refl _ _).drew bz21v5)).size
        clear bz21v5
        obtain ⟨s_VA, f_VA, z_VA⟩ := VA.open
        obtain ⟨s_VB, f_VB, z_VB⟩ := VB.open
        obtain ⟨s_VM, f_VM, z_VM⟩ := VM.open
        have Bo := B
        go_wp2
        go_ret
        exact ⟨rfl, Bo⟩
    · skip
      have hx1 : (sfC x != 0) = true := by simp [hx]
      obtain ⟨s_VA, f_VA, z_VA⟩ := VA.open
      obtain ⟨s_VB, f_VB, z_VB⟩ := VB.open
      obtain ⟨s_VM, f_VM, z_VM⟩ := VM.open
      have Bo := B
      have CS := Hid.mk (fun w => specMeetSels_ok x y w)
      have hk : (mtC x y == mtC x y) = true := by simp
      go_wp2_with fail
      refine (CX.out _).mono ?_
      rintro e w3 ⟨rfl, b3⟩
      clear s_VA f_VA z_VA s_VB f_VB z_VB s_VM f_VM z_VM
      have S3 := b3.size
      simp only [World.size_alloc] at S3
      replace VA := VA.kept b3
      replace VB := VB.kept b3
      replace VM := VM.kept b3
      replace R := R.kept b3
      replace B := thenB B b3
      clear b3
      obtain ⟨s_VA, f_VA, z_VA⟩ := VA.open
      obtain ⟨s_VB, f_VB, z_VB⟩ := VB.open
      obtain ⟨s_VM, f_VM, z_VM⟩ := VM.open
      have Bo := B
      clear s_VA f_VA z_VA s_VB f_VB z_VB s_VM f_VM z_VM
      have K : ∀ w' : World, Below w3.heap.size w3 w' → (w'.cell? ⟨w1.heap.size, 0, none⟩ = some (.int .i64 x.a) ∧ w'.cell? ⟨w1.heap.size, 1, none⟩ = some (.int .i64 x.b) ∧ w'.cell? ⟨w1.heap.size, 2, none⟩ = some (.int .i64 x.c) ∧ w'.cell? ⟨w1.heap.size, 3, none⟩ = some (.int .i64 x.d) ∧ w'.cell? ⟨w1.heap.size, 4, none⟩ = some (.int .i64 x.e) ∧ w'.cell? ⟨w1.heap.size, 5, none⟩ = some (.int .i64 x.f) ∧ w'.cell? ⟨w1.heap.size, 6, none⟩ = some (.int .i64 x.g) ∧ w'.cell? ⟨w1.heap.size, 7, none⟩ = some (.int .i64 x.h) ∧ w'.cell? ⟨w1.heap.size, 8, none⟩ = some (.int .i64 x.r) ∧ w'.cell? ⟨w1.heap.size + 1, 0, none⟩ = some (.int .i64 y.a) ∧ w'.cell? ⟨w1.heap.size + 1, 1, none⟩ = some (.int .i64 y.b) ∧ w'.cell? ⟨w1.heap.size + 1, 2, none⟩ = some (.int .i64 y.c) ∧ w'.cell? ⟨w1.heap.size + 1, 3, none⟩ = some (.int .i64 y.d) ∧ w'.cell? ⟨w1.heap.size + 1, 4, none⟩ = some (.int .i64 y.e) ∧ w'.cell? ⟨w1.heap.size + 1, 5, none⟩ = some (.int .i64 y.f) ∧ w'.cell? ⟨w1.heap.size + 1, 6, none⟩ = some (.int .i64 y.g) ∧ w'.cell? ⟨w1.heap.size + 1, 7, none⟩ = some (.int .i64 y.h) ∧ w'.cell? ⟨w1.heap.size + 1, 8, none⟩ = some (.int .i64 y.r) ∧ w'.cell? ⟨w2.heap.size, 0, none⟩ = some (.int .i64 (mtC x y)) ∧ w'.cell? ⟨w2.heap.size, 1, none⟩ = some (.int .i64 (mtS x y).a) ∧ w'.cell? ⟨w2.heap.size, 2, none⟩ = some (.int .i64 (mtS x y).b) ∧ w'.cell? ⟨w2.heap.size, 3, none⟩ = some (.int .i64 (mtS x y).c) ∧ w'.cell? ⟨w2.heap.size, 4, none⟩ = some (.int .i64 (mtS x y).d) ∧ w'.cell? ⟨w2.heap.size, 5, none⟩ = some (.int .i64 (mtS x y).e) ∧ w'.cell? ⟨w2.heap.size, 6, none⟩ = some (.int .i64 (mtS x y).f) ∧ w'.cell? ⟨w2.heap.size, 7, none⟩ = some (.int .i64 (mtS x y).g) ∧ w'.cell? ⟨w2.heap.size, 8, none⟩ = some (.int .i64 (mtS x y).h) ∧ w'.cell? ⟨w2.heap.size, 9, none⟩ = some (.int .i64 (mtS x y).r)) := fun w' h => ⟨(VA.kept h).2.1 0 (by simp), (VA.kept h).2.1 1 (by simp), (VA.kept h).2.1 2 (by simp), (VA.kept h).2.1 3 (by simp), (VA.kept h).2.1 4 (by simp), (VA.kept h).2.1 5 (by simp), (VA.kept h).2.1 6 (by simp), (VA.kept h).2.1 7 (by simp), (VA.kept h).2.1 8 (by simp), (VB.kept h).2.1 0 (by simp), (VB.kept h).2.1 1 (by simp), (VB.kept h).2.1 2 (by simp), (VB.kept h).2.1 3 (by simp), (VB.kept h).2.1 4 (by simp), (VB.kept h).2.1 5 (by simp), (VB.kept h).2.1 6 (by simp), (VB.kept h).2.1 7 (by simp), (VB.kept h).2.1 8 (by simp), (VM.kept h).2.1 0 (by simp), (VM.kept h).2.1 1 (by simp), (VM.kept h).2.1 2 (by simp), (VM.kept h).2.1 3 (by simp), (VM.kept h).2.1 4 (by simp), (VM.kept h).2.1 5 (by simp), (VM.kept h).2.1 6 (by simp), (VM.kept h).2.1 7 (by simp), (VM.kept h).2.1 8 (by simp), (VM.kept h).2.1 9 (by simp)⟩
      have K := Hid.mk K
      go_wp2_with fail
      refine wp_region_held_drew (S := (fun w' => w'.cell? ⟨w1.heap.size, 0, none⟩ = some (.int .i64 x.a) ∧ w'.cell? ⟨w1.heap.size, 1, none⟩ = some (.int .i64 x.b) ∧ w'.cell? ⟨w1.heap.size, 2, none⟩ = some (.int .i64 x.c) ∧ w'.cell? ⟨w1.heap.size, 3, none⟩ = some (.int .i64 x.d) ∧ w'.cell? ⟨w1.heap.size, 4, none⟩ = some (.int .i64 x.e) ∧ w'.cell? ⟨w1.heap.size, 5, none⟩ = some (.int .i64 x.f) ∧ w'.cell? ⟨w1.heap.size, 6, none⟩ = some (.int .i64 x.g) ∧ w'.cell? ⟨w1.heap.size, 7, none⟩ = some (.int .i64 x.h) ∧ w'.cell? ⟨w1.heap.size, 8, none⟩ = some (.int .i64 x.r) ∧ w'.cell? ⟨w1.heap.size + 1, 0, none⟩ = some (.int .i64 y.a) ∧ w'.cell? ⟨w1.heap.size + 1, 1, none⟩ = some (.int .i64 y.b) ∧ w'.cell? ⟨w1.heap.size + 1, 2, none⟩ = some (.int .i64 y.c) ∧ w'.cell? ⟨w1.heap.size + 1, 3, none⟩ = some (.int .i64 y.d) ∧ w'.cell? ⟨w1.heap.size + 1, 4, none⟩ = some (.int .i64 y.e) ∧ w'.cell? ⟨w1.heap.size + 1, 5, none⟩ = some (.int .i64 y.f) ∧ w'.cell? ⟨w1.heap.size + 1, 6, none⟩ = some (.int .i64 y.g) ∧ w'.cell? ⟨w1.heap.size + 1, 7, none⟩ = some (.int .i64 y.h) ∧ w'.cell? ⟨w1.heap.size + 1, 8, none⟩ = some (.int .i64 y.r) ∧ w'.cell? ⟨w2.heap.size, 0, none⟩ = some (.int .i64 (mtC x y)) ∧ w'.cell? ⟨w2.heap.size, 1, none⟩ = some (.int .i64 (mtS x y).a) ∧ w'.cell? ⟨w2.heap.size, 2, none⟩ = some (.int .i64 (mtS x y).b) ∧ w'.cell? ⟨w2.heap.size, 3, none⟩ = some (.int .i64 (mtS x y).c) ∧ w'.cell? ⟨w2.heap.size, 4, none⟩ = some (.int .i64 (mtS x y).d) ∧ w'.cell? ⟨w2.heap.size, 5, none⟩ = some (.int .i64 (mtS x y).e) ∧ w'.cell? ⟨w2.heap.size, 6, none⟩ = some (.int .i64 (mtS x y).f) ∧ w'.cell? ⟨w2.heap.size, 7, none⟩ = some (.int .i64 (mtS x y).g) ∧ w'.cell? ⟨w2.heap.size, 8, none⟩ = some (.int .i64 (mtS x y).h) ∧ w'.cell? ⟨w2.heap.size, 9, none⟩ = some (.int .i64 (mtS x y).r))) (by kernel_rfl) (K.out _ (Below.refl _ _).drew) (fun hHeld => ?_)
      refine wpAnyH_take (i := 0) (oi := _) (v := ?vz31u1) rfl (by kernel_rfl) (by kernel_rfl) (by kernel_rfl) (fun _ _ _ h => h) (Or.inl ⟨by rfl, ?hyz31u1⟩) hHeld ?restz31u1
      case hyz31u1 => (intro w hSw; (try dsimp only at hSw); go_simp; first | done | with_reducible rfl)
      try simp only [Act.put, List.getElem_toArray, List.getElem_cons_zero, List.setIfInBounds_toArray, List.set_cons_zero, List.set_cons_succ]
      refine wpAnyH_take (i := 1) (oi := _) (v := ?vz31u2) rfl (by kernel_rfl) (by kernel_rfl) (by kernel_rfl) (fun _ _ _ h => h) (Or.inl ⟨by rfl, ?hyz31u2⟩) hHeld ?restz31u2
      case hyz31u2 => (intro w hSw; (try dsimp only at hSw); go_simp; first | done | with_reducible rfl)
      try simp only [Act.put, List.getElem_toArray, List.getElem_cons_zero, List.getElem_cons_succ, List.setIfInBounds_toArray, List.set_cons_zero, List.set_cons_succ]
      refine wpAnyH_take (i := 4) (oi := _) (v := ?vz31u3) rfl (by kernel_rfl) (by kernel_rfl) (by kernel_rfl) (fun _ _ _ h => h) (Or.inl ⟨by rfl, ?hyz31u3⟩) hHeld ?restz31u3
      case hyz31u3 => (intro w hSw; (try dsimp only at hSw); go_simp; first | done | with_reducible rfl)
      try simp only [Act.put, List.getElem_toArray, List.getElem_cons_zero, List.getElem_cons_succ, List.setIfInBounds_toArray, List.set_cons_zero, List.set_cons_succ]
      refine wpAnyH_take (i := 5) (oi := _) (v := ?vz31u4) rfl (by kernel_rfl) (by kernel_rfl) (by kernel_rfl) (fun _ _ _ h => h) (Or.inl ⟨by rfl, ?hyz31u4⟩) hHeld ?restz31u4
      case hyz31u4 => (intro w hSw; (try dsimp only at hSw); go_simp; first | done | with_reducible rfl)
      try simp only [Act.put, List.getElem_toArray, List.getElem_cons_zero, List.getElem_cons_succ, List.setIfInBounds_toArray, List.set_cons_zero, List.set_cons_succ]
      refine wpAnyH_ready (rs := [2]) (by kernel_rfl) (by simp) ?_
      refine AllReadyH.cons (o := _) rfl (fun K0 hK0 => ?_) AllReadyH.nil
      go_simp
      go_at_call 13
      refine (CS.out _).mono ?_
      rintro e wz31v5 ⟨rfl, bz31v5⟩
      refine hK0.out _ _ (K.out _ (thenB (Below.refl _ _).drew bz31v5)) (fun hHeld => ?_)
      clear hK0 K0
      try simp only [Act.put, List.getElem_toArray, List.getElem_cons_zero, List.getElem_cons_succ, List.setIfInBounds_toArray, List.set_cons_zero, List.set_cons_succ]
      refine wpAnyH_take (i := 3) (oi := _) (v := ?vz31u6) rfl (by kernel_rfl) (by kernel_rfl) (by kernel_rfl) (fun _ _ _ h => h) (Or.inl ⟨by rfl, ?hyz31u6⟩) hHeld ?restz31u6
      case hyz31u6 => (intro w hSw; (try dsimp only at hSw); go_simp; first | done | with_reducible rfl)
      try simp only [Act.put, List.getElem_toArray, List.getElem_cons_zero, List.getElem_cons_succ, List.setIfInBounds_toArray, List.set_cons_zero, List.set_cons_succ]
      refine wpAnyH_take (i := 6) (oi := _) (v := ?vz31u7) rfl (by kernel_rfl) (by kernel_rfl) (by kernel_rfl) (fun _ _ _ h => h) (Or.inl ⟨by rfl, ?hyz31u7⟩) hHeld ?restz31u7
      case hyz31u7 => (intro w hSw; (try dsimp only at hSw); go_simp; first | done | with_reducible rfl)
      try simp only [Act.put, List.getElem_toArray, List.getElem_cons_zero, List.getElem_cons_succ, List.setIfInBounds_toArray, List.set_cons_zero, List.set_cons_succ]
      refine wpAnyH_take (i := 7) (oi := _) (v := ?vz31u8) rfl (by kernel_rfl) (by kernel_rfl) (by kernel_rfl) (fun _ _ _ h => h) (Or.inl ⟨by rfl, ?hyz31u8⟩) hHeld ?restz31u8
      case hyz31u8 => (intro w hSw; (try dsimp only at hSw); go_simp; first | done | with_reducible rfl)
      try simp only [Act.put, List.getElem_toArray, List.getElem_cons_zero, List.getElem_cons_succ, List.setIfInBounds_toArray, List.set_cons_zero, List.set_cons_succ]
      refine wpAnyH_done (by kernel_rfl) ?_ _
      clear K hHeld
      replace VA := VA.kept (thenB (Below.refl _ _).drew bz31v5)
      replace VB := VB.kept (thenB (Below.refl _ _).drew bz31v5)
      replace VM := VM.kept (thenB (Below.refl _ _).drew bz31v5)
      replace R := R.kept (thenB (Below.refl _ _).drew bz31v5)
      replace B := thenB B (thenB (Below.refl _ _).drew bz31v5)
      have Sz31 := ((thenB (Below.refl _ _).drew bz31v5)).size
      clear bz31v5
      obtain ⟨s_VA, f_VA, z_VA⟩ := VA.open
      obtain ⟨s_VB, f_VB, z_VB⟩ := VB.open
      obtain ⟨s_VM, f_VM, z_VM⟩ := VM.open
      have Bo := B
      go_wp2
      go_ret
      exact ⟨rfl, Bo⟩
  · go_enter Try.func3, Try.ntmps3
    go_wp2_with (first | (go_at_call 9; go_in) | fail)
    go_ret
    exact ⟨rfl, Below.refl _ _⟩

end Go.Proofs.Ytmbkbbephmblmaa
