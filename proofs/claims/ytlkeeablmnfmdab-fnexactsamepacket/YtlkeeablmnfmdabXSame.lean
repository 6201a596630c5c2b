/- The law on 'SamePacket': its walk (written by gen_same.py). -/
import Derived.Test.YtlkeeablmnfmdabSame
import Derived.Deep.RegionHeld3
namespace Go.Proofs.Ytlkeeablmnfmdab
open Go.RowKit

set_option maxHeartbeats 4000000 in
theorem xSame_walk (f t r l x y f' t' r' l' x' y' : Int) (a b : Option Addr) (n m ca cb : Nat) (xs ys : List Int) (w : World) (hR : Rd .u8 w a xs) (hS : Rd .u8 w b ys) (hn : xs.length = n) (hm : ys.length = m) (hnx : n ≤ maxLen) (hmx : m ≤ maxLen) :
    Calls Try.prog 4 #[.agg #[.int .i64 f, .int .i64 t, .int .i64 r, .int .i64 l, .int .i64 x, .int .i64 y, .slice a n ca], .agg #[.int .i64 f', .int .i64 t', .int .i64 r', .int .i64 l', .int .i64 x', .int .i64 y', .slice b m cb]] w fun e w' => e = .returned (.bool true) ∧ Below w.heap.size w w' := by
  by_cases hbig : (n : Int) ≤ 1048576
  · by_cases hbig2 : (n : Int) + (m : Int) ≤ 1048576
    · have CS := Hid.mk (fun c d c' d' w h h' s s' => specSamePacket_ok f t r l x y f' t' r' l' x' y' c c' n m d d' xs ys w h h' s s' hn hm)
      have CI := Hid.mk (fun c d c' d' w h h' s s' => implSamePacket_ok f t r l x y f' t' r' l' x' y' c c' n m d d' xs ys w h h' s s' hn hm)
      generalize sameP f t r l x y f' t' r' l' x' y' xs ys = k at *
      cases k
      all_goals
        go_enter Try.func4, Try.ntmps4
        have B := Below.refl w.heap.size w
        go_wp2_with fail
        refine (szPacket_in f t r l x y a n ca (1048576) _ (by omega) (by omega)).mono ?_
        rintro e w1 ⟨rfl, b1⟩
        have A0 := ((At.newP w (.int .i64 f) (.int .i64 t) (.int .i64 r) (.int .i64 l) (.int .i64 x) (.int .i64 y) (.slice a n ca) 25).kept (belowA (w.alloc (.cells #[.int .i64 f, .int .i64 t, .int .i64 r, .int .i64 l, .int .i64 x, .int .i64 y, .slice a n ca] 25)) (.cells #[.int .i64 f', .int .i64 t', .int .i64 r', .int .i64 l', .int .i64 x', .int .i64 y', .slice b m cb] 25))).kept b1
        have A1 : At w1 (w.heap.size + 1) [.int .i64 f', .int .i64 t', .int .i64 r', .int .i64 l', .int .i64 x', .int .i64 y', .slice b m cb] := by have h := (At.newP (w.alloc (.cells #[.int .i64 f, .int .i64 t, .int .i64 r, .int .i64 l, .int .i64 x, .int .i64 y, .slice a n ca] 25)) (.int .i64 f') (.int .i64 t') (.int .i64 r') (.int .i64 l') (.int .i64 x') (.int .i64 y') (.slice b m cb) 25).kept b1; simpa using h
        have B := thenB (belowA2 w (.cells #[.int .i64 f, .int .i64 t, .int .i64 r, .int .i64 l, .int .i64 x, .int .i64 y, .slice a n ca] 25) (.cells #[.int .i64 f', .int .i64 t', .int .i64 r', .int .i64 l', .int .i64 x', .int .i64 y', .slice b m cb] 25)) b1
        have S1 : w.heap.size + 2 ≤ w1.heap.size := by have h := b1.size; simp at h; omega
        clear b1
        have h0_0 : 0 ≤ 1048576 - (n : Int) := by omega
        obtain ⟨fA1_0, fA1_1, fA1_2, fA1_3, fA1_4, fA1_5, fA1_6, fA1_7⟩ := A1.seven
        go_wp2_with fail
        refine (szPacket_in f' t' r' l' x' y' b m cb (1048576 - (n : Int)) _ (by omega) (by omega)).mono ?_
        rintro e w2 ⟨rfl, b2⟩
        clear fA1_0 fA1_1 fA1_2 fA1_3 fA1_4 fA1_5 fA1_6 fA1_7
        have S2 : w1.heap.size ≤ w2.heap.size := by have h := b2.size; (try simp at h); omega
        have A0 := A0.kept b2
        have A1 := A1.kept b2
        have B := thenB B (b2)
        clear b2
        have h0_1 : 0 ≤ 1048576 - (n : Int) - (m : Int) := by omega
        have K : ∀ w' : World, Below w2.heap.size w2 w' → (w'.cell? ⟨w.heap.size, 0, none⟩ = some (.int .i64 f) ∧ w'.cell? ⟨w.heap.size, 1, none⟩ = some (.int .i64 t) ∧ w'.cell? ⟨w.heap.size, 2, none⟩ = some (.int .i64 r) ∧ w'.cell? ⟨w.heap.size, 3, none⟩ = some (.int .i64 l) ∧ w'.cell? ⟨w.heap.size, 4, none⟩ = some (.int .i64 x) ∧ w'.cell? ⟨w.heap.size, 5, none⟩ = some (.int .i64 y) ∧ w'.cell? ⟨w.heap.size, 6, none⟩ = some (.slice a n ca) ∧ w'.cell? ⟨w.heap.size + 1, 0, none⟩ = some (.int .i64 f') ∧ w'.cell? ⟨w.heap.size + 1, 1, none⟩ = some (.int .i64 t') ∧ w'.cell? ⟨w.heap.size + 1, 2, none⟩ = some (.int .i64 r') ∧ w'.cell? ⟨w.heap.size + 1, 3, none⟩ = some (.int .i64 l') ∧ w'.cell? ⟨w.heap.size + 1, 4, none⟩ = some (.int .i64 x') ∧ w'.cell? ⟨w.heap.size + 1, 5, none⟩ = some (.int .i64 y') ∧ w'.cell? ⟨w.heap.size + 1, 6, none⟩ = some (.slice b m cb)) := fun w' h => by
          obtain ⟨g0_0, g0_1, g0_2, g0_3, g0_4, g0_5, g0_6, _⟩ := (A0.kept h).seven
          obtain ⟨g1_0, g1_1, g1_2, g1_3, g1_4, g1_5, g1_6, _⟩ := (A1.kept h).seven
          exact ⟨g0_0, g0_1, g0_2, g0_3, g0_4, g0_5, g0_6, g1_0, g1_1, g1_2, g1_3, g1_4, g1_5, g1_6⟩
        have K := Hid.mk K
        go_wp2_with fail
        go_region_held3 (fun w' => w'.cell? ⟨w.heap.size, 0, none⟩ = some (.int .i64 f) ∧ w'.cell? ⟨w.heap.size, 1, none⟩ = some (.int .i64 t) ∧ w'.cell? ⟨w.heap.size, 2, none⟩ = some (.int .i64 r) ∧ w'.cell? ⟨w.heap.size, 3, none⟩ = some (.int .i64 l) ∧ w'.cell? ⟨w.heap.size, 4, none⟩ = some (.int .i64 x) ∧ w'.cell? ⟨w.heap.size, 5, none⟩ = some (.int .i64 y) ∧ w'.cell? ⟨w.heap.size, 6, none⟩ = some (.slice a n ca) ∧ w'.cell? ⟨w.heap.size + 1, 0, none⟩ = some (.int .i64 f') ∧ w'.cell? ⟨w.heap.size + 1, 1, none⟩ = some (.int .i64 t') ∧ w'.cell? ⟨w.heap.size + 1, 2, none⟩ = some (.int .i64 r') ∧ w'.cell? ⟨w.heap.size + 1, 3, none⟩ = some (.int .i64 l') ∧ w'.cell? ⟨w.heap.size + 1, 4, none⟩ = some (.int .i64 x') ∧ w'.cell? ⟨w.heap.size + 1, 5, none⟩ = some (.int .i64 y') ∧ w'.cell? ⟨w.heap.size + 1, 6, none⟩ = some (.slice b m cb)) (first | exact K.out _ (thenB (thenB (thenB (Below.refl _ _).drew b3) b4) b5) | exact K.out _ (thenB (thenB (Below.refl _ _).drew b3) b4) | exact K.out _ (thenB (Below.refl _ _).drew b3) | exact K.out _ (Below.refl _ _).drew) (first | (go_at_call 9; have hz := b4; clear hz; refine (CS.out cs0 dcs0 cs1 dcs1 _ (ocs0.kept b4).rd ocs1.rd (ocs0.kept b4).noSpot ocs1.noSpot).mono ?_; rintro e w5 ⟨rfl, b5⟩) | (go_at_call 10; have hz := b3; clear hz; refine (toPacket_ok f' t' r' l' x' y' b m cb ys _ ((hS.kept B).kept (thenB (Below.refl _ _).drew b3)) hm (by omega)).mono ?_; rintro e w4 ⟨cs1, dcs1, rfl, ocs1, b4⟩) | (go_at_call 10; refine (toPacket_ok f t r l x y a n ca xs _ ((hR.kept B).kept (Below.refl _ _).drew) hn (by omega)).mono ?_; rintro e w3 ⟨cs0, dcs0, rfl, ocs0, b3⟩))
        have bh := (thenB (thenB (thenB (Below.refl _ _).drew b3) b4) b5)
        have SH5 : w2.heap.size ≤ w5.heap.size := bh.size
        have A0 := A0.kept bh
        have A1 := A1.kept bh
        have B := thenB B (bh)
        clear bh K
        obtain ⟨fA0_0, fA0_1, fA0_2, fA0_3, fA0_4, fA0_5, fA0_6, fA0_7⟩ := A0.seven
        go_wp2_with fail
        refine (toPacket_ok f t r l x y a n ca xs _ (hR.kept B) hn (by omega)).mono ?_
        rintro e w6 ⟨x0, dx0, rfl, ox0, b6⟩
        clear fA0_0 fA0_1 fA0_2 fA0_3 fA0_4 fA0_5 fA0_6 fA0_7
        have S6 : w5.heap.size ≤ w6.heap.size := by have h := b6.size; (try simp at h); omega
        have A0 := A0.kept b6
        have A1 := A1.kept b6
        have B := thenB B (b6)
        have L_ox0 : ∀ b, x0 = some b → w5.heap.size ≤ b.block ∧ b.block < w6.heap.size := fun b hb => by have h := ox0.lt b hb; (try simp at h); omega
        clear b6
        have A0 := A0.kept (belowA w6 (.cells #[.int .i64 f, .int .i64 t, .int .i64 r, .int .i64 l, .int .i64 x, .int .i64 y, .slice x0 n dx0] 28))
        have A1 := A1.kept (belowA w6 (.cells #[.int .i64 f, .int .i64 t, .int .i64 r, .int .i64 l, .int .i64 x, .int .i64 y, .slice x0 n dx0] 28))
        have ox0 := ox0.kept (belowA w6 (.cells #[.int .i64 f, .int .i64 t, .int .i64 r, .int .i64 l, .int .i64 x, .int .i64 y, .slice x0 n dx0] 28))
        have B := thenB B ((belowA w6 (.cells #[.int .i64 f, .int .i64 t, .int .i64 r, .int .i64 l, .int .i64 x, .int .i64 y, .slice x0 n dx0] 28)))
        have X0 := At.newP w6 (.int .i64 f) (.int .i64 t) (.int .i64 r) (.int .i64 l) (.int .i64 x) (.int .i64 y) (.slice x0 n dx0) 28
        obtain ⟨fA1_0, fA1_1, fA1_2, fA1_3, fA1_4, fA1_5, fA1_6, fA1_7⟩ := A1.seven
        go_wp2_with fail
        refine (toPacket_ok f' t' r' l' x' y' b m cb ys _ (hS.kept B) hm (by omega)).mono ?_
        rintro e w7 ⟨x1, dx1, rfl, ox1, b7⟩
        clear fA1_0 fA1_1 fA1_2 fA1_3 fA1_4 fA1_5 fA1_6 fA1_7
        have S7 : w6.heap.size + 1 ≤ w7.heap.size := by have h := b7.size; (try simp at h); omega
        have A0 := A0.kept b7
        have A1 := A1.kept b7
        have X0 := X0.kept b7
        have ox0 := ox0.kept b7
        have B := thenB B (b7)
        have L_ox1 : ∀ b, x1 = some b → w6.heap.size + 1 ≤ b.block ∧ b.block < w7.heap.size := fun b hb => by have h := ox1.lt b hb; (try simp at h); omega
        clear b7
        have A0 := A0.kept (belowA w7 (.cells #[.int .i64 f', .int .i64 t', .int .i64 r', .int .i64 l', .int .i64 x', .int .i64 y', .slice x1 m dx1] 28))
        have A1 := A1.kept (belowA w7 (.cells #[.int .i64 f', .int .i64 t', .int .i64 r', .int .i64 l', .int .i64 x', .int .i64 y', .slice x1 m dx1] 28))
        have X0 := X0.kept (belowA w7 (.cells #[.int .i64 f', .int .i64 t', .int .i64 r', .int .i64 l', .int .i64 x', .int .i64 y', .slice x1 m dx1] 28))
        have ox0 := ox0.kept (belowA w7 (.cells #[.int .i64 f', .int .i64 t', .int .i64 r', .int .i64 l', .int .i64 x', .int .i64 y', .slice x1 m dx1] 28))
        have ox1 := ox1.kept (belowA w7 (.cells #[.int .i64 f', .int .i64 t', .int .i64 r', .int .i64 l', .int .i64 x', .int .i64 y', .slice x1 m dx1] 28))
        have B := thenB B ((belowA w7 (.cells #[.int .i64 f', .int .i64 t', .int .i64 r', .int .i64 l', .int .i64 x', .int .i64 y', .slice x1 m dx1] 28)))
        have X1 := At.newP w7 (.int .i64 f') (.int .i64 t') (.int .i64 r') (.int .i64 l') (.int .i64 x') (.int .i64 y') (.slice x1 m dx1) 28
        obtain ⟨fX0_0, fX0_1, fX0_2, fX0_3, fX0_4, fX0_5, fX0_6, fX0_7⟩ := X0.seven
        obtain ⟨fX1_0, fX1_1, fX1_2, fX1_3, fX1_4, fX1_5, fX1_6, fX1_7⟩ := X1.seven
        go_wp2_with fail
        refine (CI.out x0 dx0 x1 dx1 _ ox0.rd ox1.rd ox0.noSpot ox1.noSpot).mono ?_
        rintro e w8 ⟨rfl, b8⟩
        clear fX0_0 fX0_1 fX0_2 fX0_3 fX0_4 fX0_5 fX0_6 fX0_7 fX1_0 fX1_1 fX1_2 fX1_3 fX1_4 fX1_5 fX1_6 fX1_7
        have S8 : w7.heap.size + 1 ≤ w8.heap.size := by have h := b8.size; (try simp at h); omega
        have A0 := A0.kept b8
        have A1 := A1.kept b8
        have X0 := X0.kept b8
        have X1 := X1.kept b8
        have ox0 := ox0.kept b8
        have ox1 := ox1.kept b8
        have B := thenB B (b8)
        clear b8
        have K : ∀ w' : World, Below w8.heap.size w8 w' → (w'.cell? ⟨w.heap.size, 0, none⟩ = some (.int .i64 f) ∧ w'.cell? ⟨w.heap.size, 1, none⟩ = some (.int .i64 t) ∧ w'.cell? ⟨w.heap.size, 2, none⟩ = some (.int .i64 r) ∧ w'.cell? ⟨w.heap.size, 3, none⟩ = some (.int .i64 l) ∧ w'.cell? ⟨w.heap.size, 4, none⟩ = some (.int .i64 x) ∧ w'.cell? ⟨w.heap.size, 5, none⟩ = some (.int .i64 y) ∧ w'.cell? ⟨w.heap.size, 6, none⟩ = some (.slice a n ca) ∧ w'.cell? ⟨w6.heap.size, 0, none⟩ = some (.int .i64 f) ∧ w'.cell? ⟨w6.heap.size, 1, none⟩ = some (.int .i64 t) ∧ w'.cell? ⟨w6.heap.size, 2, none⟩ = some (.int .i64 r) ∧ w'.cell? ⟨w6.heap.size, 3, none⟩ = some (.int .i64 l) ∧ w'.cell? ⟨w6.heap.size, 4, none⟩ = some (.int .i64 x) ∧ w'.cell? ⟨w6.heap.size, 5, none⟩ = some (.int .i64 y) ∧ w'.cell? ⟨w6.heap.size, 6, none⟩ = some (.slice x0 n dx0)) := fun w' h => by
          obtain ⟨g0_0, g0_1, g0_2, g0_3, g0_4, g0_5, g0_6, _⟩ := (A0.kept h).seven
          obtain ⟨g1_0, g1_1, g1_2, g1_3, g1_4, g1_5, g1_6, _⟩ := (X0.kept h).seven
          exact ⟨g0_0, g0_1, g0_2, g0_3, g0_4, g0_5, g0_6, g1_0, g1_1, g1_2, g1_3, g1_4, g1_5, g1_6⟩
        have K := Hid.mk K
        go_wp2_with fail
        go_region_held3 (fun w' => w'.cell? ⟨w.heap.size, 0, none⟩ = some (.int .i64 f) ∧ w'.cell? ⟨w.heap.size, 1, none⟩ = some (.int .i64 t) ∧ w'.cell? ⟨w.heap.size, 2, none⟩ = some (.int .i64 r) ∧ w'.cell? ⟨w.heap.size, 3, none⟩ = some (.int .i64 l) ∧ w'.cell? ⟨w.heap.size, 4, none⟩ = some (.int .i64 x) ∧ w'.cell? ⟨w.heap.size, 5, none⟩ = some (.int .i64 y) ∧ w'.cell? ⟨w.heap.size, 6, none⟩ = some (.slice a n ca) ∧ w'.cell? ⟨w6.heap.size, 0, none⟩ = some (.int .i64 f) ∧ w'.cell? ⟨w6.heap.size, 1, none⟩ = some (.int .i64 t) ∧ w'.cell? ⟨w6.heap.size, 2, none⟩ = some (.int .i64 r) ∧ w'.cell? ⟨w6.heap.size, 3, none⟩ = some (.int .i64 l) ∧ w'.cell? ⟨w6.heap.size, 4, none⟩ = some (.int .i64 x) ∧ w'.cell? ⟨w6.heap.size, 5, none⟩ = some (.int .i64 y) ∧ w'.cell? ⟨w6.heap.size, 6, none⟩ = some (.slice x0 n dx0)) (first | exact K.out _ (thenB (thenB (Below.refl _ _).drew b9) b10) | exact K.out _ (thenB (Below.refl _ _).drew b9) | exact K.out _ (Below.refl _ _).drew) (first | (go_at_call 12; have hz := b9; clear hz; refine (eqPacket_ok f t r l x y x0 y0 n dx0 dy0 xs _ ((ox0.kept (Below.refl _ _).drew).kept b9).rd oy0.rd hn (by assumption)).mono ?_; rintro e w10 ⟨rfl, b10⟩) | (go_at_call 10; refine (toPacket_ok f t r l x y a n ca xs _ ((hR.kept B).kept (Below.refl _ _).drew) hn (by omega)).mono ?_; rintro e w9 ⟨y0, dy0, rfl, oy0, b9⟩))
        have bh := (thenB (thenB (Below.refl _ _).drew b9) b10)
        have SH10 : w8.heap.size ≤ w10.heap.size := bh.size
        have A0 := A0.kept bh
        have A1 := A1.kept bh
        have X0 := X0.kept bh
        have X1 := X1.kept bh
        have ox0 := ox0.kept bh
        have ox1 := ox1.kept bh
        have B := thenB B (bh)
        clear bh K
        have K : ∀ w' : World, Below w10.heap.size w10 w' → (w'.cell? ⟨w.heap.size + 1, 0, none⟩ = some (.int .i64 f') ∧ w'.cell? ⟨w.heap.size + 1, 1, none⟩ = some (.int .i64 t') ∧ w'.cell? ⟨w.heap.size + 1, 2, none⟩ = some (.int .i64 r') ∧ w'.cell? ⟨w.heap.size + 1, 3, none⟩ = some (.int .i64 l') ∧ w'.cell? ⟨w.heap.size + 1, 4, none⟩ = some (.int .i64 x') ∧ w'.cell? ⟨w.heap.size + 1, 5, none⟩ = some (.int .i64 y') ∧ w'.cell? ⟨w.heap.size + 1, 6, none⟩ = some (.slice b m cb) ∧ w'.cell? ⟨w7.heap.size, 0, none⟩ = some (.int .i64 f') ∧ w'.cell? ⟨w7.heap.size, 1, none⟩ = some (.int .i64 t') ∧ w'.cell? ⟨w7.heap.size, 2, none⟩ = some (.int .i64 r') ∧ w'.cell? ⟨w7.heap.size, 3, none⟩ = some (.int .i64 l') ∧ w'.cell? ⟨w7.heap.size, 4, none⟩ = some (.int .i64 x') ∧ w'.cell? ⟨w7.heap.size, 5, none⟩ = some (.int .i64 y') ∧ w'.cell? ⟨w7.heap.size, 6, none⟩ = some (.slice x1 m dx1)) := fun w' h => by
          obtain ⟨g0_0, g0_1, g0_2, g0_3, g0_4, g0_5, g0_6, _⟩ := (A1.kept h).seven
          obtain ⟨g1_0, g1_1, g1_2, g1_3, g1_4, g1_5, g1_6, _⟩ := (X1.kept h).seven
          exact ⟨g0_0, g0_1, g0_2, g0_3, g0_4, g0_5, g0_6, g1_0, g1_1, g1_2, g1_3, g1_4, g1_5, g1_6⟩
        have K := Hid.mk K
        go_wp2_with fail
        go_region_held3 (fun w' => w'.cell? ⟨w.heap.size + 1, 0, none⟩ = some (.int .i64 f') ∧ w'.cell? ⟨w.heap.size + 1, 1, none⟩ = some (.int .i64 t') ∧ w'.cell? ⟨w.heap.size + 1, 2, none⟩ = some (.int .i64 r') ∧ w'.cell? ⟨w.heap.size + 1, 3, none⟩ = some (.int .i64 l') ∧ w'.cell? ⟨w.heap.size + 1, 4, none⟩ = some (.int .i64 x') ∧ w'.cell? ⟨w.heap.size + 1, 5, none⟩ = some (.int .i64 y') ∧ w'.cell? ⟨w.heap.size + 1, 6, none⟩ = some (.slice b m cb) ∧ w'.cell? ⟨w7.heap.size, 0, none⟩ = some (.int .i64 f') ∧ w'.cell? ⟨w7.heap.size, 1, none⟩ = some (.int .i64 t') ∧ w'.cell? ⟨w7.heap.size, 2, none⟩ = some (.int .i64 r') ∧ w'.cell? ⟨w7.heap.size, 3, none⟩ = some (.int .i64 l') ∧ w'.cell? ⟨w7.heap.size, 4, none⟩ = some (.int .i64 x') ∧ w'.cell? ⟨w7.heap.size, 5, none⟩ = some (.int .i64 y') ∧ w'.cell? ⟨w7.heap.size, 6, none⟩ = some (.slice x1 m dx1)) (first | exact K.out _ (thenB (thenB (Below.refl _ _).drew b11) b12) | exact K.out _ (thenB (Below.refl _ _).drew b11) | exact K.out _ (Below.refl _ _).drew) (first | (go_at_call 12; have hz := b11; clear hz; refine (eqPacket_ok f' t' r' l' x' y' x1 y1 m dx1 dy1 ys _ ((ox1.kept (Below.refl _ _).drew).kept b11).rd oy1.rd hm (by assumption)).mono ?_; rintro e w12 ⟨rfl, b12⟩) | (go_at_call 10; refine (toPacket_ok f' t' r' l' x' y' b m cb ys _ ((hS.kept B).kept (Below.refl _ _).drew) hm (by omega)).mono ?_; rintro e w11 ⟨y1, dy1, rfl, oy1, b11⟩))
        have bh := (thenB (thenB (Below.refl _ _).drew b11) b12)
        have SH12 : w10.heap.size ≤ w12.heap.size := bh.size
        have A0 := A0.kept bh
        have A1 := A1.kept bh
        have X0 := X0.kept bh
        have X1 := X1.kept bh
        have ox0 := ox0.kept bh
        have ox1 := ox1.kept bh
        have B := thenB B (bh)
        clear bh K
        go_wp2
        go_ret
        exact ⟨rfl, B⟩
    · have h0 : 0 ≤ 1048576 - (n : Int) := by omega
      go_enter Try.func4, Try.ntmps4
      go_wp2_with fail
      refine (szPacket_in f t r l x y a n ca 1048576 _ (by omega) (by omega)).mono ?_
      rintro e w1 ⟨rfl, b1⟩
      have A1 : At w1 (w.heap.size + 1) [.int .i64 f', .int .i64 t', .int .i64 r', .int .i64 l', .int .i64 x', .int .i64 y', .slice b m cb] := by have h := (At.newP (w.alloc (.cells #[.int .i64 f, .int .i64 t, .int .i64 r, .int .i64 l, .int .i64 x, .int .i64 y, .slice a n ca] 25)) (.int .i64 f') (.int .i64 t') (.int .i64 r') (.int .i64 l') (.int .i64 x') (.int .i64 y') (.slice b m cb) 25).kept b1; simpa using h
      have B := thenB (belowA2 w _ _) b1
      clear b1
      obtain ⟨f0, f1, f2, f3, f4, f5, f6, f7⟩ := A1.seven
      go_wp2_with fail
      refine (szPacket_out f' t' r' l' x' y' b m cb (1048576 - (n : Int)) _ (by omega) (by omega) (by omega) hmx).mono ?_
      rintro e w2 ⟨rfl, b2⟩
      go_wp2
      go_ret
      exact ⟨rfl, thenB B b2⟩
  · go_enter Try.func4, Try.ntmps4
    go_wp2_with fail
    refine (szPacket_out f t r l x y a n ca 1048576 _ (by omega) (by omega) (by omega) hnx).mono ?_
    rintro e w1 ⟨rfl, b1⟩
    go_wp2
    go_ret
    exact ⟨rfl, thenB (belowA2 w _ _) b1⟩

end Go.Proofs.Ytlkeeablmnfmdab
