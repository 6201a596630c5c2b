/- The law on 'PacketFault': its walk. -/
import Derived.Test.YtlkeeablmnfmdaaPktH
import Derived.Deep.RegionHeld3
namespace Go.Proofs.Ytlkeeablmnfmdaa
open Go.RowKit

set_option maxHeartbeats 1000000 in
theorem xFault_walk (f t r l x y : Int) (a : Option Addr) (n ca : Nat) (xs : List Int) (w : World) (hR : Rd .u8 w a xs) (hn : xs.length = n) (hx' : n ≤ maxLen) :
    Calls Try.prog 5 #[.agg #[.int .i64 f, .int .i64 t, .int .i64 r, .int .i64 l, .int .i64 x, .int .i64 y, .slice a n ca]] w fun e w' => e = .returned (.bool true) ∧ Below w.heap.size w w' := by
  by_cases hbig : (n : Int) ≤ 1048576
  · have hx : n ≤ 281474976710656 := by omega
    have h0 : 0 ≤ 1048576 - (n : Int) := by omega
    have CS := Hid.mk (fun c d w => specPacketFault_ok f t r l x y c n d w)
    have CI := Hid.mk (fun c d w => implPacketFault_ok f t r l x y c n d w)
    generalize pfC f t r l x y n = k at *
    go_enter Try.func5, Try.ntmps5
    go_wp2_with fail
    refine (szPacket_in f t r l x y a n ca 1048576 _ hbig (by omega)).mono ?_
    rintro e w1 ⟨rfl, b1⟩
    have A0 := (At.newP w (.int .i64 f) (.int .i64 t) (.int .i64 r) (.int .i64 l) (.int .i64 x) (.int .i64 y) (.slice a n ca) 38).kept b1
    have B := thenB (belowA w _) b1
    have R := (hR.kept (belowA w _)).kept b1
    clear b1
    obtain ⟨f0, f1, f2, f3, f4, f5, f6, f7⟩ := A0.seven
    go_wp2_with fail
    refine (toPacket_ok f t r l x y a n ca xs _ R hn hx).mono ?_
    rintro e w2 ⟨c2, d2, rfl, o2, b2⟩
    clear f0 f1 f2 f3 f4 f5 f6 f7
    go_wp2_with fail
    refine (CS.out _ _ _).mono ?_
    rintro e w3 ⟨rfl, b3⟩
    have A0 := (A0.kept b2).kept b3
    have B := thenB (thenB B b2) b3
    have R := (R.kept b2).kept b3
    clear b2 b3 o2
    obtain ⟨f0, f1, f2, f3, f4, f5, f6, f7⟩ := A0.seven
    go_wp2_with fail
    refine (toPacket_ok f t r l x y a n ca xs _ R hn hx).mono ?_
    rintro e w4 ⟨c4, d4, rfl, o4, b4⟩
    clear f0 f1 f2 f3 f4 f5 f6 f7
    have A1 := At.newP w4 (.int .i64 f) (.int .i64 t) (.int .i64 r) (.int .i64 l) (.int .i64 x) (.int .i64 y) (.slice c4 n d4) 26
    have A0 := (A0.kept b4).kept (belowA w4 (.cells #[.int .i64 f, .int .i64 t, .int .i64 r, .int .i64 l, .int .i64 x, .int .i64 y, .slice c4 n d4] 26))
    have B := thenB (thenB B b4) (belowA w4 (.cells #[.int .i64 f, .int .i64 t, .int .i64 r, .int .i64 l, .int .i64 x, .int .i64 y, .slice c4 n d4] 26))
    have R := (R.kept b4).kept (belowA w4 (.cells #[.int .i64 f, .int .i64 t, .int .i64 r, .int .i64 l, .int .i64 x, .int .i64 y, .slice c4 n d4] 26))
    have o4 := o4.kept (belowA w4 (.cells #[.int .i64 f, .int .i64 t, .int .i64 r, .int .i64 l, .int .i64 x, .int .i64 y, .slice c4 n d4] 26))
    go_wp2_with fail
    refine (CI.out _ _ _).mono ?_
    rintro e w5 ⟨rfl, b5⟩
    have A0 := A0.kept b5
    have A1 := A1.kept b5
    have B := thenB B b5
    have R := R.kept b5
    have o4 := o4.kept b5
    clear b5 b4
    have K := Hid.mk (fun (w' : World) (h : Below w5.heap.size w5 w') => held2 A0 A1 h)
    clear A0 A1
    unfold Held2 at K
    go_wp2_with fail
    go_region_held3 (fun w' => w'.cell? ⟨w.heap.size, 0, none⟩ = some (.int .i64 f) ∧ w'.cell? ⟨w.heap.size, 1, none⟩ = some (.int .i64 t) ∧ w'.cell? ⟨w.heap.size, 2, none⟩ = some (.int .i64 r) ∧ w'.cell? ⟨w.heap.size, 3, none⟩ = some (.int .i64 l) ∧ w'.cell? ⟨w.heap.size, 4, none⟩ = some (.int .i64 x) ∧ w'.cell? ⟨w.heap.size, 5, none⟩ = some (.int .i64 y) ∧ w'.cell? ⟨w.heap.size, 6, none⟩ = some (.slice a n ca) ∧ w'.cell? ⟨w4.heap.size, 0, none⟩ = some (.int .i64 f) ∧ w'.cell? ⟨w4.heap.size, 1, none⟩ = some (.int .i64 t) ∧ w'.cell? ⟨w4.heap.size, 2, none⟩ = some (.int .i64 r) ∧ w'.cell? ⟨w4.heap.size, 3, none⟩ = some (.int .i64 l) ∧ w'.cell? ⟨w4.heap.size, 4, none⟩ = some (.int .i64 x) ∧ w'.cell? ⟨w4.heap.size, 5, none⟩ = some (.int .i64 y) ∧ w'.cell? ⟨w4.heap.size, 6, none⟩ = some (.slice c4 n d4)) (first | exact K.out _ (Below.refl _ _).drew | exact K.out _ (thenB (Below.refl _ _).drew b6) | exact K.out _ (thenB (thenB (Below.refl _ _).drew b6) b7)) ((first | (go_at_call 24; refine (toPacket_ok f t r l x y a n ca xs _ (R.kept (Below.refl _ _).drew) hn hx).mono ?_; rintro e w6 ⟨c6, d6, rfl, o6, b6⟩) | (go_at_call 25; refine (eqPacket_ok f t r l x y c4 c6 n d4 d6 xs _ ((o4.kept (Below.refl _ _).drew).kept b6).rd o6.rd hn hx').mono ?_; rintro e w7 ⟨rfl, b7⟩)))
    have B := thenB (thenB (thenB B (Below.refl _ _).drew) b6) b7
    go_wp2
    go_ret
    exact ⟨rfl, B⟩
  · have hlt : 1048576 < (n : Int) := by omega
    go_enter Try.func5, Try.ntmps5
    go_wp2_with fail
    refine (szPacket_out f t r l x y a n ca 1048576 _ hlt (by omega) (by omega) hx').mono ?_
    rintro e w1 ⟨rfl, b1⟩
    go_wp2
    go_ret
    exact ⟨rfl, thenB (belowA w _) b1⟩

end Go.Proofs.Ytlkeeablmnfmdaa
