/- 'ParsePacket' of the program: reading. -/
import Derived.Test.YthjaehcfakjemaaPrsB
namespace Go.Proofs.Ythjaehcfakjemaa
open Go.RowKit

theorem bytes_take {zs : List Int} (h : Bytes zs) (m : Nat) : Bytes (zs.take m) := fun z hz => h z (List.mem_of_mem_take hz)

set_option maxRecDepth 20000 in
set_option maxHeartbeats 1000000 in
theorem readPacket_A (a : Option Addr) (n ca : Nat) (zs : List Int) (w : World) (ha : Rd .u8 w a zs) (hb : Bytes zs) (hn : zs.length = n) (hx : n ≤ 1048576) (hca : n ≤ ca) (hh : hdB zs = false) :
    Calls Try.prog 23 #[.slice a n ca] w fun e w' => e = stop 5 ∧ Below w.heap.size w w' := by
    have hR := Hid.mk ha
    clear ha
    go_enter Try.func23, Try.ntmps23
    have B := Below.refl w.heap.size w
    replace B := thenB B (belowA w (.cells #[.int .i64 0, .int .i64 0, .int .i64 0, .int .i64 0, .int .i64 0, .int .i64 0, .slice none 0 0] 26))
    have VR := V.new w [.int .i64 0, .int .i64 0, .int .i64 0, .int .i64 0, .int .i64 0, .int .i64 0, .slice none 0 0] 26
    go_wp2_with fail
    refine (isHead_ok a n ca zs _ (hR.out.kept B) hb hn hx hca).mono ?_
    rintro e w1 ⟨rfl, b1⟩
    have S1 := b1.size
    simp only [World.size_alloc] at S1
    replace VR := VR.kept b1
    replace B := thenB B b1
    clear b1
    rw [hh]
    go_wp2_with (go_at_call 46; refine (require_no 5 _).mono ?_; rintro e w9 ⟨rfl, rfl⟩)
    exact ⟨rfl, rfl, B⟩

set_option maxRecDepth 20000 in
set_option maxHeartbeats 1000000 in
theorem readPacket_B (b1 o1 : Nat) (n ca : Nat) (zs : List Int) (w : World) (ha : Rd .u8 w (some ⟨b1, o1, none⟩) zs) (hb : Bytes zs) (hn : zs.length = n) (hx : n ≤ 1048576) (hca : n ≤ ca) (hh : hdB zs = true) (hs : (sumWords (zs.take 20) == 0) = false) :
    Calls Try.prog 23 #[.slice (some ⟨b1, o1, none⟩) n ca] w fun e w' => e = stop 6 ∧ Below w.heap.size w w' := by
    have hR := Hid.mk ha
    obtain ⟨g1, g2⟩ := hdB_len hh
    have hl20 := Hid.mk (show (zs.take 20).length = 20 by simp; omega)
    have k20 : (20 : Int) ≤ (ca : Int) := by omega
    clear ha
    go_enter Try.func23, Try.ntmps23
    have B := Below.refl w.heap.size w
    replace B := thenB B (belowA w (.cells #[.int .i64 0, .int .i64 0, .int .i64 0, .int .i64 0, .int .i64 0, .int .i64 0, .slice none 0 0] 26))
    have VR := V.new w [.int .i64 0, .int .i64 0, .int .i64 0, .int .i64 0, .int .i64 0, .int .i64 0, .slice none 0 0] 26
    go_wp2_with fail
    refine (isHead_ok (some ⟨b1, o1, none⟩) n ca zs _ (hR.out.kept B) hb hn hx hca).mono ?_
    rintro e w1 ⟨rfl, b1⟩
    have S1 := b1.size
    simp only [World.size_alloc] at S1
    replace VR := VR.kept b1
    replace B := thenB B b1
    clear b1
    rw [hh]
    go_wp2_with (go_at_call 46; refine (require_ok 5 _).mono ?_; rintro e w1 ⟨rfl, rfl⟩)
    refine (implCheckWords_ok (some ⟨b1, o1, none⟩) 20 ca (zs.take 20) _ ((hR.out.kept B).take 20) (bytes_take hb 20) hl20.out (by omega)).mono ?_
    rintro e w2 ⟨rfl, b2⟩
    have S2 := b2.size
    replace VR := VR.kept b2
    replace B := thenB B b2
    clear b2
    rw [hs]
    go_wp2_with (go_at_call 46; refine (require_no 6 _).mono ?_; rintro e w9 ⟨rfl, rfl⟩)
    exact ⟨rfl, rfl, B⟩

set_option maxRecDepth 20000 in
set_option maxHeartbeats 2000000 in
theorem readPacket_C (b1 o1 : Nat) (F T r l : Int) (n ca : Nat) (zs : List Int) (w : World) (ha : Rd .u8 w (some ⟨b1, o1, none⟩) zs) (hb : Bytes zs) (hn : zs.length = n) (hx : n ≤ 1048576) (hca : n ≤ ca) (hgF : Hid (takeN zs 12 4 = F)) (hgT : Hid (takeN zs 16 4 = T)) (hgr : Hid (zs.getD 9 0 = r)) (hgl : Hid (zs.getD 8 0 = l)) (hh : hdB zs = true) (hs : (sumWords (zs.take 20) == 0) = true) (hl : (l != 0) = false) :
    Calls Try.prog 23 #[.slice (some ⟨b1, o1, none⟩) n ca] w fun e w' => e = stop 3 ∧ Below w.heap.size w w' := by
    have hR := Hid.mk ha
    obtain ⟨g1, g2⟩ := hdB_len hh
    have hl20 := Hid.mk (show (zs.take 20).length = 20 by simp; omega)
    have k20 : (20 : Int) ≤ (ca : Int) := by omega
    clear ha
    go_enter Try.func23, Try.ntmps23
    have B := Below.refl w.heap.size w
    replace B := thenB B (belowA w (.cells #[.int .i64 0, .int .i64 0, .int .i64 0, .int .i64 0, .int .i64 0, .int .i64 0, .slice none 0 0] 26))
    have VR := V.new w [.int .i64 0, .int .i64 0, .int .i64 0, .int .i64 0, .int .i64 0, .int .i64 0, .slice none 0 0] 26
    go_wp2_with fail
    refine (isHead_ok (some ⟨b1, o1, none⟩) n ca zs _ (hR.out.kept B) hb hn hx hca).mono ?_
    rintro e w1 ⟨rfl, b1⟩
    have S1 := b1.size
    simp only [World.size_alloc] at S1
    replace VR := VR.kept b1
    replace B := thenB B b1
    clear b1
    rw [hh]
    go_wp2_with (go_at_call 46; refine (require_ok 5 _).mono ?_; rintro e w1 ⟨rfl, rfl⟩)
    refine (implCheckWords_ok (some ⟨b1, o1, none⟩) 20 ca (zs.take 20) _ ((hR.out.kept B).take 20) (bytes_take hb 20) hl20.out (by omega)).mono ?_
    rintro e w2 ⟨rfl, b2⟩
    have S2 := b2.size
    replace VR := VR.kept b2
    replace B := thenB B b2
    clear b2
    rw [hs]
    go_wp2_with (go_at_call 46; refine (require_ok 6 _).mono ?_; rintro e w2 ⟨rfl, rfl⟩)
    refine (readNumber_ok (some ⟨b1, o1, none⟩) n ca 12 4 zs _ (hR.out.kept B) hb hn hx hca (by decide) (by decide) (by omega)).mono ?_
    rintro e w3 ⟨rfl, b3⟩
    have S3 := b3.size
    replace VR := VR.kept b3
    replace B := thenB B b3
    clear b3
    rw [hgF.out]
    go_wp2_with fail
    refine (readNumber_ok (some ⟨b1, o1, none⟩) n ca 16 4 zs _ (hR.out.kept B) hb hn hx hca (by decide) (by decide) (by omega)).mono ?_
    rintro e w4 ⟨rfl, b4⟩
    have S4 := b4.size
    replace VR := VR.kept b4
    replace B := thenB B b4
    clear b4
    rw [hgT.out]
    go_wp2_with fail
    refine (readNumber_ok (some ⟨b1, o1, none⟩) n ca 9 1 zs _ (hR.out.kept B) hb hn hx hca (by decide) (by decide) (by omega)).mono ?_
    rintro e w5 ⟨rfl, b5⟩
    have S5 := b5.size
    replace VR := VR.kept b5
    replace B := thenB B b5
    clear b5
    rw [takeN_one, hgr.out]
    go_wp2_with fail
    refine (readNumber_ok (some ⟨b1, o1, none⟩) n ca 8 1 zs _ (hR.out.kept B) hb hn hx hca (by decide) (by decide) (by omega)).mono ?_
    rintro e w6 ⟨rfl, b6⟩
    have S6 := b6.size
    replace VR := VR.kept b6
    replace B := thenB B b6
    clear b6
    rw [takeN_one, hgl.out]
    replace VR := VR.kept (belowA w6 (.cells #[.int .i64 F, .int .i64 T, .int .i64 r, .int .i64 l, .int .i64 0, .int .i64 0, .slice none 0 0] 26))
    replace B := thenB B (belowA w6 (.cells #[.int .i64 F, .int .i64 T, .int .i64 r, .int .i64 l, .int .i64 0, .int .i64 0, .slice none 0 0] 26))
    have VP := V.new w6 [.int .i64 F, .int .i64 T, .int .i64 r, .int .i64 l, .int .i64 0, .int .i64 0, .slice none 0 0] 26
    obtain ⟨s_VP, f_VP, z_VP⟩ := VP.open
    go_wp2_with (go_at_call 46; refine (require_no 3 _).mono ?_; rintro e w9 ⟨rfl, rfl⟩)
    exact ⟨rfl, rfl, B⟩

set_option maxRecDepth 20000 in
set_option maxHeartbeats 2000000 in
theorem readPacket_D (b1 o1 : Nat) (F T r l : Int) (n ca : Nat) (zs : List Int) (w : World) (ha : Rd .u8 w (some ⟨b1, o1, none⟩) zs) (hb : Bytes zs) (hn : zs.length = n) (hx : n ≤ 1048576) (hca : n ≤ ca) (hgF : Hid (takeN zs 12 4 = F)) (hgT : Hid (takeN zs 16 4 = T)) (hgr : Hid (zs.getD 9 0 = r)) (hgl : Hid (zs.getD 8 0 = l)) (hh : hdB zs = true) (hs : (sumWords (zs.take 20) == 0) = true) (hl : (l != 0) = true) (hr : (r != 0) = false) :
    Calls Try.prog 23 #[.slice (some ⟨b1, o1, none⟩) n ca] w fun e w' => e = stop 3 ∧ Below w.heap.size w w' := by
    have hR := Hid.mk ha
    obtain ⟨g1, g2⟩ := hdB_len hh
    have hl20 := Hid.mk (show (zs.take 20).length = 20 by simp; omega)
    have k20 : (20 : Int) ≤ (ca : Int) := by omega
    clear ha
    go_enter Try.func23, Try.ntmps23
    have B := Below.refl w.heap.size w
    replace B := thenB B (belowA w (.cells #[.int .i64 0, .int .i64 0, .int .i64 0, .int .i64 0, .int .i64 0, .int .i64 0, .slice none 0 0] 26))
    have VR := V.new w [.int .i64 0, .int .i64 0, .int .i64 0, .int .i64 0, .int .i64 0, .int .i64 0, .slice none 0 0] 26
    go_wp2_with fail
    refine (isHead_ok (some ⟨b1, o1, none⟩) n ca zs _ (hR.out.kept B) hb hn hx hca).mono ?_
    rintro e w1 ⟨rfl, b1⟩
    have S1 := b1.size
    simp only [World.size_alloc] at S1
    replace VR := VR.kept b1
    replace B := thenB B b1
    clear b1
    rw [hh]
    go_wp2_with (go_at_call 46; refine (require_ok 5 _).mono ?_; rintro e w1 ⟨rfl, rfl⟩)
    refine (implCheckWords_ok (some ⟨b1, o1, none⟩) 20 ca (zs.take 20) _ ((hR.out.kept B).take 20) (bytes_take hb 20) hl20.out (by omega)).mono ?_
    rintro e w2 ⟨rfl, b2⟩
    have S2 := b2.size
    replace VR := VR.kept b2
    replace B := thenB B b2
    clear b2
    rw [hs]
    go_wp2_with (go_at_call 46; refine (require_ok 6 _).mono ?_; rintro e w2 ⟨rfl, rfl⟩)
    refine (readNumber_ok (some ⟨b1, o1, none⟩) n ca 12 4 zs _ (hR.out.kept B) hb hn hx hca (by decide) (by decide) (by omega)).mono ?_
    rintro e w3 ⟨rfl, b3⟩
    have S3 := b3.size
    replace VR := VR.kept b3
    replace B := thenB B b3
    clear b3
    rw [hgF.out]
    go_wp2_with fail
    refine (readNumber_ok (some ⟨b1, o1, none⟩) n ca 16 4 zs _ (hR.out.kept B) hb hn hx hca (by decide) (by decide) (by omega)).mono ?_
    rintro e w4 ⟨rfl, b4⟩
    have S4 := b4.size
    replace VR := VR.kept b4
    replace B := thenB B b4
    clear b4
    rw [hgT.out]
    go_wp2_with fail
    refine (readNumber_ok (some ⟨b1, o1, none⟩) n ca 9 1 zs _ (hR.out.kept B) hb hn hx hca (by decide) (by decide) (by omega)).mono ?_
    rintro e w5 ⟨rfl, b5⟩
    have S5 := b5.size
    replace VR := VR.kept b5
    replace B := thenB B b5
    clear b5
    rw [takeN_one, hgr.out]
    go_wp2_with fail
    refine (readNumber_ok (some ⟨b1, o1, none⟩) n ca 8 1 zs _ (hR.out.kept B) hb hn hx hca (by decide) (by decide) (by omega)).mono ?_
    rintro e w6 ⟨rfl, b6⟩
    have S6 := b6.size
    replace VR := VR.kept b6
    replace B := thenB B b6
    clear b6
    rw [takeN_one, hgl.out]
    replace VR := VR.kept (belowA w6 (.cells #[.int .i64 F, .int .i64 T, .int .i64 r, .int .i64 l, .int .i64 0, .int .i64 0, .slice none 0 0] 26))
    replace B := thenB B (belowA w6 (.cells #[.int .i64 F, .int .i64 T, .int .i64 r, .int .i64 l, .int .i64 0, .int .i64 0, .slice none 0 0] 26))
    have VP := V.new w6 [.int .i64 F, .int .i64 T, .int .i64 r, .int .i64 l, .int .i64 0, .int .i64 0, .slice none 0 0] 26
    obtain ⟨s_VP, f_VP, z_VP⟩ := VP.open
    go_wp2_with (go_at_call 46; refine (require_no 3 _).mono ?_; rintro e w9 ⟨rfl, rfl⟩)
    exact ⟨rfl, rfl, B⟩

set_option maxRecDepth 20000 in
set_option maxHeartbeats 2000000 in
theorem readPacket_E (b1 o1 : Nat) (F T r l x : Int) (n ca : Nat) (zs : List Int) (w : World) (ha : Rd .u8 w (some ⟨b1, o1, none⟩) zs) (hb : Bytes zs) (hn : zs.length = n) (hx : n ≤ 1048576) (hca : n ≤ ca) (hgF : Hid (takeN zs 12 4 = F)) (hgT : Hid (takeN zs 16 4 = T)) (hgx : Hid (takeN zs 20 2 = x)) (hgr : Hid (zs.getD 9 0 = r)) (hgl : Hid (zs.getD 8 0 = l)) (hh : hdB zs = true) (hs : (sumWords (zs.take 20) == 0) = true) (hl : (l != 0) = true) (hr : (r != 0) = true) (hp : portsP r = true) (h24 : n < 24) :
    Calls Try.prog 23 #[.slice (some ⟨b1, o1, none⟩) n ca] w fun e w' => e = stop 5 ∧ Below w.heap.size w w' := by
    have hR := Hid.mk ha
    obtain ⟨g1, g2⟩ := hdB_len hh
    have hl20 := Hid.mk (show (zs.take 20).length = 20 by simp; omega)
    have k20 : (20 : Int) ≤ (ca : Int) := by omega
    clear ha
    go_enter Try.func23, Try.ntmps23
    have B := Below.refl w.heap.size w
    replace B := thenB B (belowA w (.cells #[.int .i64 0, .int .i64 0, .int .i64 0, .int .i64 0, .int .i64 0, .int .i64 0, .slice none 0 0] 26))
    have VR := V.new w [.int .i64 0, .int .i64 0, .int .i64 0, .int .i64 0, .int .i64 0, .int .i64 0, .slice none 0 0] 26
    go_wp2_with fail
    refine (isHead_ok (some ⟨b1, o1, none⟩) n ca zs _ (hR.out.kept B) hb hn hx hca).mono ?_
    rintro e w1 ⟨rfl, b1⟩
    have S1 := b1.size
    simp only [World.size_alloc] at S1
    replace VR := VR.kept b1
    replace B := thenB B b1
    clear b1
    rw [hh]
    go_wp2_with (go_at_call 46; refine (require_ok 5 _).mono ?_; rintro e w1 ⟨rfl, rfl⟩)
    refine (implCheckWords_ok (some ⟨b1, o1, none⟩) 20 ca (zs.take 20) _ ((hR.out.kept B).take 20) (bytes_take hb 20) hl20.out (by omega)).mono ?_
    rintro e w2 ⟨rfl, b2⟩
    have S2 := b2.size
    replace VR := VR.kept b2
    replace B := thenB B b2
    clear b2
    rw [hs]
    go_wp2_with (go_at_call 46; refine (require_ok 6 _).mono ?_; rintro e w2 ⟨rfl, rfl⟩)
    refine (readNumber_ok (some ⟨b1, o1, none⟩) n ca 12 4 zs _ (hR.out.kept B) hb hn hx hca (by decide) (by decide) (by omega)).mono ?_
    rintro e w3 ⟨rfl, b3⟩
    have S3 := b3.size
    replace VR := VR.kept b3
    replace B := thenB B b3
    clear b3
    rw [hgF.out]
    go_wp2_with fail
    refine (readNumber_ok (some ⟨b1, o1, none⟩) n ca 16 4 zs _ (hR.out.kept B) hb hn hx hca (by decide) (by decide) (by omega)).mono ?_
    rintro e w4 ⟨rfl, b4⟩
    have S4 := b4.size
    replace VR := VR.kept b4
    replace B := thenB B b4
    clear b4
    rw [hgT.out]
    go_wp2_with fail
    refine (readNumber_ok (some ⟨b1, o1, none⟩) n ca 9 1 zs _ (hR.out.kept B) hb hn hx hca (by decide) (by decide) (by omega)).mono ?_
    rintro e w5 ⟨rfl, b5⟩
    have S5 := b5.size
    replace VR := VR.kept b5
    replace B := thenB B b5
    clear b5
    rw [takeN_one, hgr.out]
    go_wp2_with fail
    refine (readNumber_ok (some ⟨b1, o1, none⟩) n ca 8 1 zs _ (hR.out.kept B) hb hn hx hca (by decide) (by decide) (by omega)).mono ?_
    rintro e w6 ⟨rfl, b6⟩
    have S6 := b6.size
    replace VR := VR.kept b6
    replace B := thenB B b6
    clear b6
    rw [takeN_one, hgl.out]
    replace VR := VR.kept (belowA w6 (.cells #[.int .i64 F, .int .i64 T, .int .i64 r, .int .i64 l, .int .i64 0, .int .i64 0, .slice none 0 0] 26))
    replace B := thenB B (belowA w6 (.cells #[.int .i64 F, .int .i64 T, .int .i64 r, .int .i64 l, .int .i64 0, .int .i64 0, .slice none 0 0] 26))
    have VP := V.new w6 [.int .i64 F, .int .i64 T, .int .i64 r, .int .i64 l, .int .i64 0, .int .i64 0, .slice none 0 0] 26
    obtain ⟨s_VP, f_VP, z_VP⟩ := VP.open
    go_wp2_with (first | (go_at_call 46; refine (require_ok 3 _).mono ?_; rintro e w9 ⟨rfl, rfl⟩) | (go_at_call 32; refine (implHasPorts_ok _ _).mono ?_; rintro e w8 ⟨rfl, rfl⟩))
    by_cases h22 : n < 22
    · refine (readNumber_no (some ⟨b1, o1, none⟩) n ca 20 2 zs _ (hR.out.kept B) hb hn hx hca (by omega)).mono ?_
      rintro e w7 ⟨rfl, b7⟩
      exact ⟨rfl, rfl, thenB B b7⟩
    · clear s_VP f_VP z_VP
      refine (readNumber_ok (some ⟨b1, o1, none⟩) n ca 20 2 zs _ (hR.out.kept B) hb hn hx hca (by decide) (by decide) (by omega)).mono ?_
      rintro e w7 ⟨rfl, b7⟩
      have S7 := b7.size
      simp only [World.size_alloc] at S7
      replace VR := VR.kept b7
      replace VP := VP.kept b7
      replace B := thenB B b7
      clear b7
      rw [hgx.out]
      obtain ⟨s_VP, f_VP, z_VP⟩ := VP.open
      go_wp2_with fail
      clear s_VP f_VP z_VP
      replace VR := VR.other (p := ⟨w6.heap.size, 4, none⟩) (by (try simp); (try omega)) (.int .i64 x)
      replace VP := VP.set (i := 4) (by simp) (.int .i64 x)
      simp only [List.set_cons_zero, List.set_cons_succ] at VP
      replace B := B.setCell (p := ⟨w6.heap.size, 4, none⟩) (by (try simp); (try omega)) (.int .i64 x)
      refine (readNumber_no (some ⟨b1, o1, none⟩) n ca 22 2 zs _ (hR.out.kept B) hb hn hx hca (by omega)).mono ?_
      rintro e w8 ⟨rfl, b8⟩
      exact ⟨rfl, rfl, thenB B b8⟩

set_option maxRecDepth 20000 in
set_option maxHeartbeats 2000000 in
theorem readPacket_F (b1 o1 : Nat) (F T r l x y : Int) (n ca : Nat) (zs : List Int) (w : World) (ha : Rd .u8 w (some ⟨b1, o1, none⟩) zs) (hb : Bytes zs) (hn : zs.length = n) (hx : n ≤ 1048576) (hca : n ≤ ca) (hgF : Hid (takeN zs 12 4 = F)) (hgT : Hid (takeN zs 16 4 = T)) (hgx : Hid (takeN zs 20 2 = x)) (hgy : Hid (takeN zs 22 2 = y)) (hgr : Hid (zs.getD 9 0 = r)) (hgl : Hid (zs.getD 8 0 = l)) (hh : hdB zs = true) (hs : (sumWords (zs.take 20) == 0) = true) (hl : (l != 0) = true) (hr : (r != 0) = true) (hp : portsP r = true) (h24 : 24 ≤ n) :
    Calls Try.prog 23 #[.slice (some ⟨b1, o1, none⟩) n ca] w fun e w' => ∃ c d, e = .returned (.agg #[.int .i64 F, .int .i64 T, .int .i64 r, .int .i64 l, .int .i64 x, .int .i64 y, .slice c (zs.drop 24).length d]) ∧ Own .u8 5 w' w.heap.size c d (zs.drop 24) ∧ Below w.heap.size w w' := by
    have hR := Hid.mk ha
    obtain ⟨g1, g2⟩ := hdB_len hh
    have hl20 := Hid.mk (show (zs.take 20).length = 20 by simp; omega)
    have k20 : (20 : Int) ≤ (ca : Int) := by omega
    clear ha
    have h200 : decide ((n : Int) - 24 ≤ 200) = true := by rw [decide_eq_true_iff]; omega
    have hla : (24 : Int) ≤ (n : Int) := by omega
    have hlc : (24 : Int) ≤ (ca : Int) := by omega
    go_enter Try.func23, Try.ntmps23
    have B := Below.refl w.heap.size w
    replace B := thenB B (belowA w (.cells #[.int .i64 0, .int .i64 0, .int .i64 0, .int .i64 0, .int .i64 0, .int .i64 0, .slice none 0 0] 26))
    have VR := V.new w [.int .i64 0, .int .i64 0, .int .i64 0, .int .i64 0, .int .i64 0, .int .i64 0, .slice none 0 0] 26
    go_wp2_with fail
    refine (isHead_ok (some ⟨b1, o1, none⟩) n ca zs _ (hR.out.kept B) hb hn hx hca).mono ?_
    rintro e w1 ⟨rfl, b1⟩
    have S1 := b1.size
    simp only [World.size_alloc] at S1
    replace VR := VR.kept b1
    replace B := thenB B b1
    clear b1
    rw [hh]
    go_wp2_with (go_at_call 46; refine (require_ok 5 _).mono ?_; rintro e w1 ⟨rfl, rfl⟩)
    refine (implCheckWords_ok (some ⟨b1, o1, none⟩) 20 ca (zs.take 20) _ ((hR.out.kept B).take 20) (bytes_take hb 20) hl20.out (by omega)).mono ?_
    rintro e w2 ⟨rfl, b2⟩
    have S2 := b2.size
    replace VR := VR.kept b2
    replace B := thenB B b2
    clear b2
    rw [hs]
    go_wp2_with (go_at_call 46; refine (require_ok 6 _).mono ?_; rintro e w2 ⟨rfl, rfl⟩)
    refine (readNumber_ok (some ⟨b1, o1, none⟩) n ca 12 4 zs _ (hR.out.kept B) hb hn hx hca (by decide) (by decide) (by omega)).mono ?_
    rintro e w3 ⟨rfl, b3⟩
    have S3 := b3.size
    replace VR := VR.kept b3
    replace B := thenB B b3
    clear b3
    rw [hgF.out]
    go_wp2_with fail
    refine (readNumber_ok (some ⟨b1, o1, none⟩) n ca 16 4 zs _ (hR.out.kept B) hb hn hx hca (by decide) (by decide) (by omega)).mono ?_
    rintro e w4 ⟨rfl, b4⟩
    have S4 := b4.size
    replace VR := VR.kept b4
    replace B := thenB B b4
    clear b4
    rw [hgT.out]
    go_wp2_with fail
    refine (readNumber_ok (some ⟨b1, o1, none⟩) n ca 9 1 zs _ (hR.out.kept B) hb hn hx hca (by decide) (by decide) (by omega)).mono ?_
    rintro e w5 ⟨rfl, b5⟩
    have S5 := b5.size
    replace VR := VR.kept b5
    replace B := thenB B b5
    clear b5
    rw [takeN_one, hgr.out]
    go_wp2_with fail
    refine (readNumber_ok (some ⟨b1, o1, none⟩) n ca 8 1 zs _ (hR.out.kept B) hb hn hx hca (by decide) (by decide) (by omega)).mono ?_
    rintro e w6 ⟨rfl, b6⟩
    have S6 := b6.size
    replace VR := VR.kept b6
    replace B := thenB B b6
    clear b6
    rw [takeN_one, hgl.out]
    replace VR := VR.kept (belowA w6 (.cells #[.int .i64 F, .int .i64 T, .int .i64 r, .int .i64 l, .int .i64 0, .int .i64 0, .slice none 0 0] 26))
    replace B := thenB B (belowA w6 (.cells #[.int .i64 F, .int .i64 T, .int .i64 r, .int .i64 l, .int .i64 0, .int .i64 0, .slice none 0 0] 26))
    have VP := V.new w6 [.int .i64 F, .int .i64 T, .int .i64 r, .int .i64 l, .int .i64 0, .int .i64 0, .slice none 0 0] 26
    obtain ⟨s_VP, f_VP, z_VP⟩ := VP.open
    go_wp2_with (first | (go_at_call 46; refine (require_ok 3 _).mono ?_; rintro e w9 ⟨rfl, rfl⟩) | (go_at_call 32; refine (implHasPorts_ok _ _).mono ?_; rintro e w8 ⟨rfl, rfl⟩))
    clear s_VP f_VP z_VP
    refine (readNumber_ok (some ⟨b1, o1, none⟩) n ca 20 2 zs _ (hR.out.kept B) hb hn hx hca (by decide) (by decide) (by omega)).mono ?_
    rintro e w7 ⟨rfl, b7⟩
    have S7 := b7.size
    simp only [World.size_alloc] at S7
    replace VR := VR.kept b7
    replace VP := VP.kept b7
    replace B := thenB B b7
    clear b7
    rw [hgx.out]
    obtain ⟨s_VP, f_VP, z_VP⟩ := VP.open
    go_wp2_with fail
    clear s_VP f_VP z_VP
    replace VR := VR.other (p := ⟨w6.heap.size, 4, none⟩) (by (try simp); (try omega)) (.int .i64 x)
    replace VP := VP.set (i := 4) (by simp) (.int .i64 x)
    simp only [List.set_cons_zero, List.set_cons_succ] at VP
    replace B := B.setCell (p := ⟨w6.heap.size, 4, none⟩) (by (try simp); (try omega)) (.int .i64 x)
    go_wp2_with fail
    refine (readNumber_ok (some ⟨b1, o1, none⟩) n ca 22 2 zs _ (hR.out.kept B) hb hn hx hca (by decide) (by decide) (by omega)).mono ?_
    rintro e w8 ⟨rfl, b8⟩
    have S8 := b8.size
    simp only [World.size_setCell] at S8
    replace VR := VR.kept b8
    replace VP := VP.kept b8
    replace B := thenB B b8
    clear b8
    rw [hgy.out]
    obtain ⟨s_VP, f_VP, z_VP⟩ := VP.open
    go_wp2_with fail
    clear s_VP f_VP z_VP
    replace VR := VR.other (p := ⟨w6.heap.size, 5, none⟩) (by (try simp); (try omega)) (.int .i64 y)
    replace VP := VP.set (i := 5) (by simp) (.int .i64 y)
    simp only [List.set_cons_zero, List.set_cons_succ] at VP
    replace B := B.setCell (p := ⟨w6.heap.size, 5, none⟩) (by (try simp); (try omega)) (.int .i64 y)
    obtain ⟨s_VP, f_VP, z_VP⟩ := VP.open
    by_cases hcap : ca = 24
    · skip
      have hn0 : n = 24 := by omega
      have hz0 := Hid.mk (show zs.drop 24 = [] from List.drop_eq_nil_of_le (by omega))
      subst hcap
      subst hn0
      go_wp2_with (first | (go_at_call 46; refine (require_ok 3 _).mono ?_; rintro e w9 ⟨rfl, rfl⟩) | (go_at_call 46; refine (require_ok 2 _).mono ?_; rintro e w9 ⟨rfl, rfl⟩) | (go_at_call 32; refine (implHasPorts_ok _ _).mono ?_; rintro e w8 ⟨rfl, rfl⟩))
      refine (clone_any (some ⟨b1, o1, none⟩) 0 0 (zs.drop 24) _ (by rw [hz0.out]; exact Rd.nil) (by rw [hz0.out]; rfl) (by omega)).mono ?_
      rintro e w9 ⟨c, d, rfl, o, b9⟩
      clear s_VP f_VP z_VP
      have S9 := b9.size
      simp only [World.size_setCell] at S9
      replace VR := VR.kept b9
      replace VP := VP.kept b9
      replace B := thenB B b9
      clear b9
      obtain ⟨s_VR, f_VR, z_VR⟩ := VR.open
      obtain ⟨s_VP, f_VP, z_VP⟩ := VP.open
      have O := Hid.mk o
      clear o
      go_wp2
      refine bodyPost_ret (v := .agg #[.int .i64 F, .int .i64 T, .int .i64 r, .int .i64 l, .int .i64 x, .int .i64 y, .slice c 0 d]) (by simp [results, Try.results23, go_sem, f_VR]) rfl ⟨c, d, ?_, ?_, ?_⟩
      · rw [hz0.out]; rfl
      · refine Own.mono (base := (w8.setCell ⟨w6.heap.size, 5, none⟩ (.int .i64 y)).heap.size) ?_ (by (try simp); omega)
        repeat' first | with_reducible exact O.out | with_reducible refine Own.below ?_ ?_ _ | (simp; try omega)
      · repeat' first | with_reducible exact B | with_reducible refine Below.setCell ?_ ?_ _ | (simp; try omega)
    · skip
      go_wp2_with (first | (go_at_call 46; refine (require_ok 3 _).mono ?_; rintro e w9 ⟨rfl, rfl⟩) | (go_at_call 46; refine (require_ok 2 _).mono ?_; rintro e w9 ⟨rfl, rfl⟩) | (go_at_call 32; refine (implHasPorts_ok _ _).mono ?_; rintro e w8 ⟨rfl, rfl⟩))
      refine (clone_any (some ⟨b1, o1 + 24, none⟩) (n - 24) (ca - 24) (zs.drop 24) _ (by have h := (hR.out.kept B).sub 24 (n - 24); rw [List.take_of_length_le (by simp; omega)] at h; exact h) (by simp; omega) (by omega)).mono ?_
      rintro e w9 ⟨c, d, rfl, o, b9⟩
      clear s_VP f_VP z_VP
      have S9 := b9.size
      simp only [World.size_setCell] at S9
      replace VR := VR.kept b9
      replace VP := VP.kept b9
      replace B := thenB B b9
      clear b9
      obtain ⟨s_VR, f_VR, z_VR⟩ := VR.open
      obtain ⟨s_VP, f_VP, z_VP⟩ := VP.open
      have O := Hid.mk o
      clear o
      go_wp2
      refine bodyPost_ret (v := .agg #[.int .i64 F, .int .i64 T, .int .i64 r, .int .i64 l, .int .i64 x, .int .i64 y, .slice c (n - 24) d]) (by simp [results, Try.results23, go_sem, f_VR]) rfl ⟨c, d, ?_, ?_, ?_⟩
      · rw [List.length_drop, hn]
      · refine Own.mono (base := (w8.setCell ⟨w6.heap.size, 5, none⟩ (.int .i64 y)).heap.size) ?_ (by (try simp); omega)
        repeat' first | with_reducible exact O.out | with_reducible refine Own.below ?_ ?_ _ | (simp; try omega)
      · repeat' first | with_reducible exact B | with_reducible refine Below.setCell ?_ ?_ _ | (simp; try omega)

set_option maxRecDepth 20000 in
set_option maxHeartbeats 2000000 in
theorem readPacket_G (b1 o1 : Nat) (F T r l : Int) (n ca : Nat) (zs : List Int) (w : World) (ha : Rd .u8 w (some ⟨b1, o1, none⟩) zs) (hb : Bytes zs) (hn : zs.length = n) (hx : n ≤ 1048576) (hca : n ≤ ca) (hgF : Hid (takeN zs 12 4 = F)) (hgT : Hid (takeN zs 16 4 = T)) (hgr : Hid (zs.getD 9 0 = r)) (hgl : Hid (zs.getD 8 0 = l)) (hh : hdB zs = true) (hs : (sumWords (zs.take 20) == 0) = true) (hl : (l != 0) = true) (hr : (r != 0) = true) (hp : portsP r = false) (h24 : n ≤ 220) :
    Calls Try.prog 23 #[.slice (some ⟨b1, o1, none⟩) n ca] w fun e w' => ∃ c d, e = .returned (.agg #[.int .i64 F, .int .i64 T, .int .i64 r, .int .i64 l, .int .i64 0, .int .i64 0, .slice c (zs.drop 20).length d]) ∧ Own .u8 5 w' w.heap.size c d (zs.drop 20) ∧ Below w.heap.size w w' := by
    have hR := Hid.mk ha
    obtain ⟨g1, g2⟩ := hdB_len hh
    have hl20 := Hid.mk (show (zs.take 20).length = 20 by simp; omega)
    have k20 : (20 : Int) ≤ (ca : Int) := by omega
    clear ha
    have h200 : decide ((n : Int) - 20 ≤ 200) = true := by rw [decide_eq_true_iff]; omega
    have hla : (20 : Int) ≤ (n : Int) := by omega
    have hlc : (20 : Int) ≤ (ca : Int) := by omega
    go_enter Try.func23, Try.ntmps23
    have B := Below.refl w.heap.size w
    replace B := thenB B (belowA w (.cells #[.int .i64 0, .int .i64 0, .int .i64 0, .int .i64 0, .int .i64 0, .int .i64 0, .slice none 0 0] 26))
    have VR := V.new w [.int .i64 0, .int .i64 0, .int .i64 0, .int .i64 0, .int .i64 0, .int .i64 0, .slice none 0 0] 26
    go_wp2_with fail
    refine (isHead_ok (some ⟨b1, o1, none⟩) n ca zs _ (hR.out.kept B) hb hn hx hca).mono ?_
    rintro e w1 ⟨rfl, b1⟩
    have S1 := b1.size
    simp only [World.size_alloc] at S1
    replace VR := VR.kept b1
    replace B := thenB B b1
    clear b1
    rw [hh]
    go_wp2_with (go_at_call 46; refine (require_ok 5 _).mono ?_; rintro e w1 ⟨rfl, rfl⟩)
    refine (implCheckWords_ok (some ⟨b1, o1, none⟩) 20 ca (zs.take 20) _ ((hR.out.kept B).take 20) (bytes_take hb 20) hl20.out (by omega)).mono ?_
    rintro e w2 ⟨rfl, b2⟩
    have S2 := b2.size
    replace VR := VR.kept b2
    replace B := thenB B b2
    clear b2
    rw [hs]
    go_wp2_with (go_at_call 46; refine (require_ok 6 _).mono ?_; rintro e w2 ⟨rfl, rfl⟩)
    refine (readNumber_ok (some ⟨b1, o1, none⟩) n ca 12 4 zs _ (hR.out.kept B) hb hn hx hca (by decide) (by decide) (by omega)).mono ?_
    rintro e w3 ⟨rfl, b3⟩
    have S3 := b3.size
    replace VR := VR.kept b3
    replace B := thenB B b3
    clear b3
    rw [hgF.out]
    go_wp2_with fail
    refine (readNumber_ok (some ⟨b1, o1, none⟩) n ca 16 4 zs _ (hR.out.kept B) hb hn hx hca (by decide) (by decide) (by omega)).mono ?_
    rintro e w4 ⟨rfl, b4⟩
    have S4 := b4.size
    replace VR := VR.kept b4
    replace B := thenB B b4
    clear b4
    rw [hgT.out]
    go_wp2_with fail
    refine (readNumber_ok (some ⟨b1, o1, none⟩) n ca 9 1 zs _ (hR.out.kept B) hb hn hx hca (by decide) (by decide) (by omega)).mono ?_
    rintro e w5 ⟨rfl, b5⟩
    have S5 := b5.size
    replace VR := VR.kept b5
    replace B := thenB B b5
    clear b5
    rw [takeN_one, hgr.out]
    go_wp2_with fail
    refine (readNumber_ok (some ⟨b1, o1, none⟩) n ca 8 1 zs _ (hR.out.kept B) hb hn hx hca (by decide) (by decide) (by omega)).mono ?_
    rintro e w6 ⟨rfl, b6⟩
    have S6 := b6.size
    replace VR := VR.kept b6
    replace B := thenB B b6
    clear b6
    rw [takeN_one, hgl.out]
    replace VR := VR.kept (belowA w6 (.cells #[.int .i64 F, .int .i64 T, .int .i64 r, .int .i64 l, .int .i64 0, .int .i64 0, .slice none 0 0] 26))
    replace B := thenB B (belowA w6 (.cells #[.int .i64 F, .int .i64 T, .int .i64 r, .int .i64 l, .int .i64 0, .int .i64 0, .slice none 0 0] 26))
    have VP := V.new w6 [.int .i64 F, .int .i64 T, .int .i64 r, .int .i64 l, .int .i64 0, .int .i64 0, .slice none 0 0] 26
    obtain ⟨s_VP, f_VP, z_VP⟩ := VP.open
    by_cases hcap : ca = 20
    · skip
      have hn0 : n = 20 := by omega
      have hz0 := Hid.mk (show zs.drop 20 = [] from List.drop_eq_nil_of_le (by omega))
      subst hcap
      subst hn0
      go_wp2_with (first | (go_at_call 46; refine (require_ok 3 _).mono ?_; rintro e w9 ⟨rfl, rfl⟩) | (go_at_call 46; refine (require_ok 2 _).mono ?_; rintro e w9 ⟨rfl, rfl⟩) | (go_at_call 32; refine (implHasPorts_ok _ _).mono ?_; rintro e w8 ⟨rfl, rfl⟩))
      refine (clone_any (some ⟨b1, o1, none⟩) 0 0 (zs.drop 20) _ (by rw [hz0.out]; exact Rd.nil) (by rw [hz0.out]; rfl) (by omega)).mono ?_
      rintro e w7 ⟨c, d, rfl, o, b7⟩
      clear s_VP f_VP z_VP
      have S7 := b7.size
      simp only [World.size_alloc] at S7
      replace VR := VR.kept b7
      replace VP := VP.kept b7
      replace B := thenB B b7
      clear b7
      obtain ⟨s_VR, f_VR, z_VR⟩ := VR.open
      obtain ⟨s_VP, f_VP, z_VP⟩ := VP.open
      have O := Hid.mk o
      clear o
      go_wp2
      refine bodyPost_ret (v := .agg #[.int .i64 F, .int .i64 T, .int .i64 r, .int .i64 l, .int .i64 0, .int .i64 0, .slice c 0 d]) (by simp [results, Try.results23, go_sem, f_VR]) rfl ⟨c, d, ?_, ?_, ?_⟩
      · rw [hz0.out]; rfl
      · refine Own.mono (base := (w6.alloc (.cells #[.int .i64 F, .int .i64 T, .int .i64 r, .int .i64 l, .int .i64 0, .int .i64 0, .slice none 0 0] 26)).heap.size) ?_ (by (try simp); omega)
        repeat' first | with_reducible exact O.out | with_reducible refine Own.below ?_ ?_ _ | (simp; try omega)
      · repeat' first | with_reducible exact B | with_reducible refine Below.setCell ?_ ?_ _ | (simp; try omega)
    · skip
      go_wp2_with (first | (go_at_call 46; refine (require_ok 3 _).mono ?_; rintro e w9 ⟨rfl, rfl⟩) | (go_at_call 46; refine (require_ok 2 _).mono ?_; rintro e w9 ⟨rfl, rfl⟩) | (go_at_call 32; refine (implHasPorts_ok _ _).mono ?_; rintro e w8 ⟨rfl, rfl⟩))
      refine (clone_any (some ⟨b1, o1 + 20, none⟩) (n - 20) (ca - 20) (zs.drop 20) _ (by have h := (hR.out.kept B).sub 20 (n - 20); rw [List.take_of_length_le (by simp; omega)] at h; exact h) (by simp; omega) (by omega)).mono ?_
      rintro e w7 ⟨c, d, rfl, o, b7⟩
      clear s_VP f_VP z_VP
      have S7 := b7.size
      simp only [World.size_alloc] at S7
      replace VR := VR.kept b7
      replace VP := VP.kept b7
      replace B := thenB B b7
      clear b7
      obtain ⟨s_VR, f_VR, z_VR⟩ := VR.open
      obtain ⟨s_VP, f_VP, z_VP⟩ := VP.open
      have O := Hid.mk o
      clear o
      go_wp2
      refine bodyPost_ret (v := .agg #[.int .i64 F, .int .i64 T, .int .i64 r, .int .i64 l, .int .i64 0, .int .i64 0, .slice c (n - 20) d]) (by simp [results, Try.results23, go_sem, f_VR]) rfl ⟨c, d, ?_, ?_, ?_⟩
      · rw [List.length_drop, hn]
      · refine Own.mono (base := (w6.alloc (.cells #[.int .i64 F, .int .i64 T, .int .i64 r, .int .i64 l, .int .i64 0, .int .i64 0, .slice none 0 0] 26)).heap.size) ?_ (by (try simp); omega)
        repeat' first | with_reducible exact O.out | with_reducible refine Own.below ?_ ?_ _ | (simp; try omega)
      · repeat' first | with_reducible exact B | with_reducible refine Below.setCell ?_ ?_ _ | (simp; try omega)

set_option maxRecDepth 20000 in
set_option maxHeartbeats 2000000 in
theorem readPacket_H (b1 o1 : Nat) (F T r l : Int) (n ca : Nat) (zs : List Int) (w : World) (ha : Rd .u8 w (some ⟨b1, o1, none⟩) zs) (hb : Bytes zs) (hn : zs.length = n) (hx : n ≤ 1048576) (hca : n ≤ ca) (hgF : Hid (takeN zs 12 4 = F)) (hgT : Hid (takeN zs 16 4 = T)) (hgr : Hid (zs.getD 9 0 = r)) (hgl : Hid (zs.getD 8 0 = l)) (hh : hdB zs = true) (hs : (sumWords (zs.take 20) == 0) = true) (hl : (l != 0) = true) (hr : (r != 0) = true) (hp : portsP r = false) (h24 : 220 < n) :
    Calls Try.prog 23 #[.slice (some ⟨b1, o1, none⟩) n ca] w fun e w' => e = stop 2 ∧ Below w.heap.size w w' := by
    have hR := Hid.mk ha
    obtain ⟨g1, g2⟩ := hdB_len hh
    have hl20 := Hid.mk (show (zs.take 20).length = 20 by simp; omega)
    have k20 : (20 : Int) ≤ (ca : Int) := by omega
    clear ha
    go_enter Try.func23, Try.ntmps23
    have B := Below.refl w.heap.size w
    replace B := thenB B (belowA w (.cells #[.int .i64 0, .int .i64 0, .int .i64 0, .int .i64 0, .int .i64 0, .int .i64 0, .slice none 0 0] 26))
    have VR := V.new w [.int .i64 0, .int .i64 0, .int .i64 0, .int .i64 0, .int .i64 0, .int .i64 0, .slice none 0 0] 26
    go_wp2_with fail
    refine (isHead_ok (some ⟨b1, o1, none⟩) n ca zs _ (hR.out.kept B) hb hn hx hca).mono ?_
    rintro e w1 ⟨rfl, b1⟩
    have S1 := b1.size
    simp only [World.size_alloc] at S1
    replace VR := VR.kept b1
    replace B := thenB B b1
    clear b1
    rw [hh]
    go_wp2_with (go_at_call 46; refine (require_ok 5 _).mono ?_; rintro e w1 ⟨rfl, rfl⟩)
    refine (implCheckWords_ok (some ⟨b1, o1, none⟩) 20 ca (zs.take 20) _ ((hR.out.kept B).take 20) (bytes_take hb 20) hl20.out (by omega)).mono ?_
    rintro e w2 ⟨rfl, b2⟩
    have S2 := b2.size
    replace VR := VR.kept b2
    replace B := thenB B b2
    clear b2
    rw [hs]
    go_wp2_with (go_at_call 46; refine (require_ok 6 _).mono ?_; rintro e w2 ⟨rfl, rfl⟩)
    refine (readNumber_ok (some ⟨b1, o1, none⟩) n ca 12 4 zs _ (hR.out.kept B) hb hn hx hca (by decide) (by decide) (by omega)).mono ?_
    rintro e w3 ⟨rfl, b3⟩
    have S3 := b3.size
    replace VR := VR.kept b3
    replace B := thenB B b3
    clear b3
    rw [hgF.out]
    go_wp2_with fail
    refine (readNumber_ok (some ⟨b1, o1, none⟩) n ca 16 4 zs _ (hR.out.kept B) hb hn hx hca (by decide) (by decide) (by omega)).mono ?_
    rintro e w4 ⟨rfl, b4⟩
    have S4 := b4.size
    replace VR := VR.kept b4
    replace B := thenB B b4
    clear b4
    rw [hgT.out]
    go_wp2_with fail
    refine (readNumber_ok (some ⟨b1, o1, none⟩) n ca 9 1 zs _ (hR.out.kept B) hb hn hx hca (by decide) (by decide) (by omega)).mono ?_
    rintro e w5 ⟨rfl, b5⟩
    have S5 := b5.size
    replace VR := VR.kept b5
    replace B := thenB B b5
    clear b5
    rw [takeN_one, hgr.out]
    go_wp2_with fail
    refine (readNumber_ok (some ⟨b1, o1, none⟩) n ca 8 1 zs _ (hR.out.kept B) hb hn hx hca (by decide) (by decide) (by omega)).mono ?_
    rintro e w6 ⟨rfl, b6⟩
    have S6 := b6.size
    replace VR := VR.kept b6
    replace B := thenB B b6
    clear b6
    rw [takeN_one, hgl.out]
    replace VR := VR.kept (belowA w6 (.cells #[.int .i64 F, .int .i64 T, .int .i64 r, .int .i64 l, .int .i64 0, .int .i64 0, .slice none 0 0] 26))
    replace B := thenB B (belowA w6 (.cells #[.int .i64 F, .int .i64 T, .int .i64 r, .int .i64 l, .int .i64 0, .int .i64 0, .slice none 0 0] 26))
    have VP := V.new w6 [.int .i64 F, .int .i64 T, .int .i64 r, .int .i64 l, .int .i64 0, .int .i64 0, .slice none 0 0] 26
    obtain ⟨s_VP, f_VP, z_VP⟩ := VP.open
    have h200 : decide ((n : Int) - 20 ≤ 200) = false := by rw [decide_eq_false_iff_not]; omega
    have hla : (20 : Int) ≤ (n : Int) := by omega
    go_wp2_with (first | (go_at_call 46; refine (require_ok 3 _).mono ?_; rintro e w9 ⟨rfl, rfl⟩) | (go_at_call 46; refine (require_no 2 _).mono ?_; rintro e w9 ⟨rfl, rfl⟩) | (go_at_call 32; refine (implHasPorts_ok _ _).mono ?_; rintro e w8 ⟨rfl, rfl⟩))
    exact ⟨rfl, rfl, B⟩

end Go.Proofs.Ythjaehcfakjemaa
