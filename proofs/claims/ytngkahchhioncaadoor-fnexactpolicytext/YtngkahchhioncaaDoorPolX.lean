/- A policy's text: the program. -/
import Derived.Test.YtngkahchhioncaaDoorPolW
namespace Go.Proofs.YtngkahchhioncaaDoor
open Go.RowKit

theorem bytes_cells (a b : ByteArray) : Lib.byteCells a.data.toList ++ Lib.strCells b = Lib.byteCells (a ++ b).data.toList := by
  rw [toList_append]
  unfold Lib.byteCells Lib.strCells
  simp

/-- A builder stays as it is where only new memory is made. -/
theorem isBuilder_kept {T e : TypeId} {B b : Nat} {bs : List Value} {w w' : World} (h : Lib.IsBuilder T e B b bs w) (hb : Below w.heap.size w w') (hlt : b < w.heap.size) : Lib.IsBuilder T e B b bs w' := by
  have key : ∀ p, Lib.BuilderAt T e B b p bs w → Lib.BuilderAt T e B b p bs w' := by
    rintro p ⟨hB, v, hc, ho, hne⟩
    refine ⟨hB, v, (hb.block b hlt).trans hc, World.ownsRow.kept ho (Below.grownBy hb none) ?_, hne⟩
    by_cases h : v.ownBlock = none
    · exact .inl h
    · exact .inr h
  rcases h with h | h
  · exact .inl (key _ h)
  · exact .inr (key _ h)

/-- A new builder. -/
theorem newBuilder (xs : List R11) (w : World) : Lib.IsBuilder 128 5 w.heap.size w.heap.size (Lib.byteCells (ptB xs 0).data.toList) (w.alloc (.cells #[.pointer none, .slice none 0 0] 128)) := by
  have e : Lib.byteCells (ptB xs 0).data.toList = [] := rfl
  rw [e]
  exact .inl ⟨Nat.le_refl _, .slice none 0 0, heap_alloc_new w _, World.ownsRow_nil _ _ _ _, by simp [Value.ownBlock]⟩

set_option maxRecDepth 20000 in
set_option maxHeartbeats 8000000 in
theorem implPolicyText_ok (a : Option Addr) (n ca : Nat) (xs : List R11) (w : World) (htab : Lib.TabIs Tryd.prog w (Rows.fnExactPolicyTextRow.laid.getD 2 ("", .nil)).1 .u64 Lib.pow10Tab) (ha : RdRule w a xs) (hn : xs.length = n) (hx : n ≤ maxLen) :
    Calls Tryd.prog 46 #[.slice a n ca] w fun e w' => e = .returned (.agg #[.int .i64 (pyC xs), .string (pxB xs)]) ∧ Below w.heap.size w w' := by
  have hT := Hid.mk (Lib.tabBelow_of_tabIs htab)
  have CP := Hid.mk (fun w h => implPolicyFault_ok a n ca xs w h hn hx)
  have q0 := build_tr0
  have q1 := build_tr1
  clear htab
  rcases px_ways xs with ⟨h1, e1⟩ | ⟨h1, e1⟩
  · rw [e1]
    clear e1
    generalize pyC xs = kk at *
    go_enter Tryd.func46, Tryd.ntmps46
    have B := Below.refl w.heap.size w
    replace ha := ha.kept (belowA w (.cells #[.int .i64 0, .string ⟨#[]⟩] 76))
    replace B := thenB B (belowA w (.cells #[.int .i64 0, .string ⟨#[]⟩] 76))
    have VR := V.new w [.int .i64 0, .string ⟨#[]⟩] 76
    obtain ⟨s_VR, f_VR, z_VR⟩ := VR.open
    have Bo := B
    go_wp2_with fail
    refine (CP.out _ ha).mono ?_
    rintro e w1 ⟨rfl, b1⟩
    clear s_VR f_VR z_VR
    have S1 := b1.size
    simp only [World.size_alloc] at S1
    replace VR := VR.kept b1
    replace ha := ha.kept b1
    replace B := thenB B b1
    clear b1
    obtain ⟨s_VR, f_VR, z_VR⟩ := VR.open
    have Bo := B
    clear s_VR f_VR z_VR
    have VF := Hid.mk (VR.filled [.int .i64 kk, .string ⟨#[]⟩] rfl)
    have BR := belowCells B (show w.heap.size ≤ w.heap.size by (first | omega | (simp; done) | (simp; omega))) 0 [.int .i64 kk, .string ⟨#[]⟩]
    have HT := Hid.mk VR.there
    replace BR := Hid.mk BR
    obtain ⟨s_VR, f_VR, z_VR⟩ := VR.open
    go_wp2_with (refine wpList_store_mid rfl 76 _ _ rfl (w.heap.size) 0 #[.int .i64 kk, .string ⟨#[]⟩] rfl rfl HT.out (by kernel_rfl) (by kernel_rfl) ?_)
    refine bodyPost_ret (v := .agg #[.int .i64 kk, .string ⟨#[]⟩]) (results_row Tryd.results46 _ _ (w.heap.size) [.int .i64 kk, .string ⟨#[]⟩] _ rfl VF.out Tryd.underlying76 rfl (by kernel_rfl)) rfl ⟨rfl, BR.out⟩
  · have hx20 : n ≤ 20 := by have := (pyC_zero h1).1; omega
    have hz := Hid.mk (pyC_zero h1).2
    rw [h1] at CP
    rw [e1, h1, hn]
    have HA := Hid.mk ha
    clear e1 h1
    go_enter Tryd.func46, Tryd.ntmps46
    have B := Below.refl w.heap.size w
    replace ha := ha.kept (belowA w (.cells #[.int .i64 0, .string ⟨#[]⟩] 76))
    replace B := thenB B (belowA w (.cells #[.int .i64 0, .string ⟨#[]⟩] 76))
    have VR := V.new w [.int .i64 0, .string ⟨#[]⟩] 76
    obtain ⟨s_VR, f_VR, z_VR⟩ := VR.open
    have Bo := B
    go_wp2_with fail
    refine (CP.out _ ha).mono ?_
    rintro e w11 ⟨rfl, b11⟩
    clear s_VR f_VR z_VR
    have S11 := b11.size
    simp only [World.size_alloc] at S11
    replace VR := VR.kept b11
    replace ha := ha.kept b11
    replace B := thenB B b11
    clear b11
    obtain ⟨s_VR, f_VR, z_VR⟩ := VR.open
    have Bo := B
    clear s_VR f_VR z_VR
    have hIB : Lib.IsBuilder 128 5 w11.heap.size w11.heap.size (Lib.byteCells (ptB xs 0).data.toList) (w11.alloc (.cells #[.pointer none, .slice none 0 0] 128)) := newBuilder xs w11
    replace VR := Hid.mk (VR.kept (belowA w11 (.cells #[.pointer none, .slice none 0 0] 128)))
    replace B := Hid.mk (thenB B (belowA w11 (.cells #[.pointer none, .slice none 0 0] 128)))
    have hwl : w.heap.size + 1 ≤ w11.heap.size := by have := S11; omega
    replace hIB := Hid.mk hIB
    clear Bo ha CP
    go_wp2
    go_loopw [15] (fun i wr => ∃ k : Nat, k ≤ n ∧ i = .int .i64 k ∧ Lib.IsBuilder 128 5 w11.heap.size w11.heap.size (Lib.byteCells (ptB xs k).data.toList) wr ∧ V wr w.heap.size [.int .i64 0, .string ⟨#[]⟩] ∧ w11.heap.size < wr.heap.size ∧ Below w.heap.size w wr) (fun i _ => n - (intOf i).toNat)
    case atStart => exact ⟨0, Nat.zero_le _, rfl, hIB.out, VR.out, by simp, B.out⟩
    case round =>
      clear VR B hIB
      obtain ⟨k, hk, rfl, IB, VR, hws, B⟩ := hrel
      by_cases hlt : k < n
      · obtain ⟨x, hx1⟩ : ∃ x, xs.getD k zRule = x := ⟨_, rfl⟩
        have hk1 : (k : Int) < (n : Int) := by omega
        have hru := hz.out x (by rw [← hx1]; exact getDRule_mem (by omega))
        have hnext : Hid (ptB xs (k + 1) = ptB xs k ++ lnB x) := Hid.mk (by rw [ptB, hx1])
        have hs0 := ptB_size hz.out k (by omega)
        have hs1 := lnB_size hru
        have CL := Hid.mk (fun w h => ruleLine_ok x hru w h)
        rcases HA.out.kept B with h0 | ⟨b1, o1, rfl, hca⟩
        · rw [h0] at hn; simp at hn; omega
        obtain ⟨p0, p1, p2, p3, p4, p5, p6, p7, p8, p9, p10⟩ := RdRule.cells hca k (by omega) x hx1
        clear hca hx1 hru
        generalize lnB x = LN at *
        generalize ptB xs k = A0 at *
        replace VR := VR.kept (belowA wr (.cells #[.int .i64 x.s.a, .int .i64 x.s.b, .int .i64 x.s.c, .int .i64 x.s.d, .int .i64 x.s.e, .int .i64 x.s.f, .int .i64 x.s.g, .int .i64 x.s.h, .int .i64 x.s.r, .int .i64 x.p, .int .i64 x.q] 34))
        replace B := thenB B (belowA wr (.cells #[.int .i64 x.s.a, .int .i64 x.s.b, .int .i64 x.s.c, .int .i64 x.s.d, .int .i64 x.s.e, .int .i64 x.s.f, .int .i64 x.s.g, .int .i64 x.s.h, .int .i64 x.s.r, .int .i64 x.p, .int .i64 x.q] 34))
        have VX := V.new wr [.int .i64 x.s.a, .int .i64 x.s.b, .int .i64 x.s.c, .int .i64 x.s.d, .int .i64 x.s.e, .int .i64 x.s.f, .int .i64 x.s.g, .int .i64 x.s.h, .int .i64 x.s.r, .int .i64 x.p, .int .i64 x.q] 34
        obtain ⟨s_VR, f_VR, z_VR⟩ := VR.open
        obtain ⟨s_VX, f_VX, z_VX⟩ := VX.open
        have Bo := B
        have hle1 : w11.heap.size ≤ wr.heap.size := by omega
        have IB1 := Hid.mk (isBuilder_kept IB (belowA wr (.cells #[.int .i64 x.s.a, .int .i64 x.s.b, .int .i64 x.s.c, .int .i64 x.s.d, .int .i64 x.s.e, .int .i64 x.s.f, .int .i64 x.s.g, .int .i64 x.s.h, .int .i64 x.s.r, .int .i64 x.p, .int .i64 x.q] 34)) hws)
        go_wp2_with fail
        refine (CL.out _ (hT.out _ B)).mono ?_
        rintro e w41 ⟨rfl, b41⟩
        clear s_VR f_VR z_VR s_VX f_VX z_VX
        have S41 := b41.size
        simp only [World.size_alloc] at S41
        replace VR := VR.kept b41
        replace VX := VX.kept b41
        replace B := thenB B b41
        have IB2 := Hid.mk (isBuilder_kept IB1.out b41 (by simp; omega))
        clear b41
        obtain ⟨s_VR, f_VR, z_VR⟩ := VR.open
        obtain ⟨s_VX, f_VX, z_VX⟩ := VX.open
        have Bo := B
        clear p0 p1 p2 p3 p4 p5 p6 p7 p8 p9 p10
        have hlen : (Lib.byteCells A0.data.toList).length = A0.size := by unfold Lib.byteCells; rw [List.length_map, Array.length_toList]; rfl
        go_wp2_with fail
        refine (writeString_any w11.heap.size w11.heap.size _ LN _ IB2.out (by omega) (by omega)).mono ?_
        rintro e w50 ⟨rfl, BA, b50⟩
        have VR7 := VR.keptB (show w.heap.size < w11.heap.size by omega) b50
        have B7 := B.trans (b50.mono (show w.heap.size ≤ w11.heap.size by omega))
        have hws7 : w11.heap.size < w50.heap.size := by have := b50.size; omega
        rw [bytes_cells, ← hnext.out] at BA
        replace BA := Hid.mk BA
        replace VR7 := Hid.mk VR7
        replace B7 := Hid.mk B7
        clear B Bo VR VX b50 IB IB1 IB2 hlen
        go_wp2
        go_roundw
        case rel => exact ⟨k + 1, by omega, by go_num, .inr BA.out, VR7.out, hws7, B7.out⟩
        case measure => simp [intOf]; omega
      · obtain rfl : k = n := by omega
        obtain ⟨s_VR, f_VR, z_VR⟩ := VR.open
        have Bo := B
        clear s_VR f_VR z_VR
        go_wp2_with fail
        refine (builderString_any w11.heap.size w11.heap.size (ptB xs k).data.toList _ IB (by omega)).mono ?_
        rintro e w61 ⟨rfl, b61⟩
        have hmk := mk_toList (ptB xs k)
        rw [hmk]
        replace VR := VR.keptB (show w.heap.size < w11.heap.size by omega) b61
        replace B := B.trans (b61.mono (show w.heap.size ≤ w11.heap.size by omega))
        clear b61 Bo hmk
        obtain ⟨s_VR, f_VR, z_VR⟩ := VR.open
        clear s_VR f_VR z_VR
        have VF := Hid.mk (VR.filled [.int .i64 0, .string (ptB xs k)] rfl)
        have BR := belowCells B (show w.heap.size ≤ w.heap.size by (first | omega | (simp; done) | (simp; omega))) 0 [.int .i64 0, .string (ptB xs k)]
        have HT := Hid.mk VR.there
        replace BR := Hid.mk BR
        obtain ⟨s_VR, f_VR, z_VR⟩ := VR.open
        go_wp2_with (refine wpList_store_mid rfl 76 _ _ rfl (w.heap.size) 0 #[.int .i64 0, .string (ptB xs k)] rfl rfl HT.out (by kernel_rfl) (by kernel_rfl) ?_)
        refine bodyPost_ret (v := .agg #[.int .i64 0, .string (ptB xs k)]) (results_row Tryd.results46 _ _ (w.heap.size) [.int .i64 0, .string (ptB xs k)] _ rfl VF.out Tryd.underlying76 rfl (by kernel_rfl)) rfl ⟨rfl, BR.out⟩

end Go.Proofs.YtngkahchhioncaaDoor
