/- The law FnNumbers: its walk. -/
import Derived.Test.YtnclfbliimcpgaaPut
import Derived.Test.YtnclfbliimcpgaaTake
import Derived.Test.YtnclfbliimcpgaaDrawP
import Derived.Deep.RegionHeld3
namespace Go.Proofs.Ytnclfbliimcpgaa
open Go.RowKit

theorem takeN_digits (n : Int) (s : Nat) (h0 : 0 ≤ n) (h1 : n ≤ (2 : Int) ^ (8 * s) - 1) : ∀ k, k ≤ s → takeN (9 :: putN n s) 1 k = n / (2 : Int) ^ (8 * (s - k))
  | 0, _ => by
    rw [Nat.sub_zero, Int.ediv_eq_zero_of_lt h0 (by omega)]
    rfl
  | k + 1, h => by
    have e : (9 :: putN n s).getD (1 + k) 0 = digitN n s k := by
      rw [Nat.add_comm, List.getD_cons_succ, putN_at n s k (by omega)]
    rw [takeN_succ, takeN_digits n s h0 h1 k (by omega), e]
    unfold digitN
    rw [show s - k = (s - (k + 1)) + 1 from by omega, ← div_more, show s - 1 - k = s - (k + 1) from by omega]
    omega

theorem takeN_back (n : Int) (s : Nat) (h0 : 0 ≤ n) (h1 : n ≤ (2 : Int) ^ (8 * s) - 1) : takeN (9 :: putN n s) 1 s = n := by
  rw [takeN_digits n s h0 h1 s (Nat.le_refl _), Nat.sub_self]
  simp

theorem bytes_putN (n : Int) (s : Nat) : Bytes (putN n s) := by
  intro z hz
  simp only [putN, List.mem_map] at hz
  obtain ⟨i, _, rfl⟩ := hz
  unfold digitN
  omega

theorem field_bytes (k v : Value) (w : World) : (Instr.field 27 (.agg #[k, v]) 0).run Try.prog w = .ok k w := by kernel_rfl

set_option maxHeartbeats 1000000 in
theorem xNumbers_walk (a : Option Addr) (n ca : Nat) (xs : List Int) (w : World) (hR : Rd .u8 w a xs) (hB : Bytes xs) (hn : xs.length = n) :
    Calls Try.prog 3 #[.slice a n ca] w fun e w' => e = .returned (.bool true) ∧ Below w.heap.size w w' := by
  by_cases hbig : (n : Int) ≤ 1048576
  · obtain ⟨i0, hi, g0, g1, g2⟩ := info_parts Try.info_u8
    go_enter Try.func3, Try.ntmps3
    go_wp2_with (go_at_call 9; go_in)
    refine (drawPutNumber_ok a n ca xs _ hR hB hn (by omega)).mono ?_
    rintro e w1 ⟨x, s, rfl, b1⟩
    by_cases hp : ptIn x s
    · obtain ⟨p1, p2, p3, p4⟩ := hp
      obtain ⟨s, rfl⟩ := Int.eq_ofNat_of_zero_le (by omega : 0 ≤ s)
      have CP := Hid.mk (fun w => implPutNumber_ok x s w)
      have e1 : ptCode x s = 0 := if_pos ⟨p1, p2, p3, p4⟩
      have e2 : ptVal x s = putN x s := if_pos ⟨p1, p2, p3, p4⟩
      rw [e1, e2, length_putN] at CP
      have HX := Hid.mk (takeN_back x s p3 p4)
      clear e1 e2
      go_wp2_with fail
      refine (CP.out _).mono ?_
      rintro e w2 ⟨c2, d2, rfl, o2, b2⟩
      obtain ⟨g, rfl, hg⟩ := o2.some_of (by rw [length_putN]; omega)
      have o3 := o2.kept (belowA2 w2 (.cells #[.int .i64 0, .slice (some ⟨g, 0, none⟩) s d2] 27) (.cells #[.int .u8 9] 5))
      have hn9 : ((w2.alloc (.cells #[.int .i64 0, .slice (some ⟨g, 0, none⟩) s d2] 27)).alloc (.cells #[.int .u8 9] 5)).ownsRow w2.heap.size 5 1 (.slice (some ⟨w2.heap.size + 1, 0, none⟩) 1 1) 1 [.int .u8 9] := by
        have h := World.ownsRow_lit (base := w2.heap.size) (e := 5) (size := 1) (w2.alloc (.cells #[.int .i64 0, .slice (some ⟨g, 0, none⟩) s d2] 27)) #[.int .u8 9] 1 (by simp) (by unfold maxLen; omega) rfl
        simpa using h
      have hcs := (o3.row (length_putN x s)).cells (g := g) rfl
      have hglt : g < w2.heap.size := (o2.lt _ rfl).2
      go_wp2_with (at_builtin; refine wpList_append_own _ rfl _ _ 22 rfl w2.heap.size 5 i0 (.int .u8 0) 1 1 Try.underlying22 hi g0 g1 g2 rfl (by decide) _ _ _ rfl hn9 ⟨g, 0, none⟩ s d2 ((putN x s).map (Value.int .u8)) rfl (by simp [length_putN]) hcs (ints_oneCell _ _) (by unfold maxLen; omega) (by omega) (by simp; omega) ?_)
      intro v' w3 hown3 hgrow3 _
      have A0 := (At.new2 w2 (.int .i64 0) (.slice (some ⟨g, 0, none⟩) s d2) 27).kept (belowA _ (.cells #[.int .u8 9] 5))
      have A0 := A0.grown hgrow3 (by simp [Value.ownBlock])
      have hown4 : w3.ownsRow w2.heap.size 5 1 v' (1 + s) ((9 :: putN x s).map (Value.int .u8)) := by simpa using hown3
      obtain ⟨c3, d3, rfl⟩ := ownsRow_shape hown4
      have o4 := Own.mk hown4 (by simp [length_putN]; omega)
      have b3 : Below w2.heap.size w2 w3 := (belowA2 _ _ _).grown hgrow3 (by simp; omega) (by simp [Value.ownBlock])
      have hL : (9 :: putN x s).length = 1 + s := by simp [length_putN]; omega
      have hd3 : 1 + s ≤ d3 := by have := o4.cap; omega
      have hB9 : Bytes (9 :: putN x s) := by
        intro z hz
        rcases List.mem_cons.1 hz with rfl | hz
        · omega
        · exact bytes_putN x s z hz
      have ht : tkIn (9 :: putN x s) 1 s := ⟨by omega, by omega, by omega, by rw [hL]; omega⟩
      have CT := Hid.mk (fun w h => implTakeNumber_ok c3 (1 + s) d3 1 s (9 :: putN x s) w h hB9 hL (by unfold maxLen; omega) hd3)
      rw [show tkCode (9 :: putN x s) 1 s = 0 from if_pos ht, show tkVal (9 :: putN x s) 1 s = x from (if_pos ht).trans HX.out] at CT
      clear hown3 hown4 hgrow3 hn9 hcs hL ht hB9 o3
      go_wp2_with fail
      refine (CT.out _ o4.rd).mono ?_
      rintro e w4 ⟨rfl, b4⟩
      have A0 := A0.kept b4
      obtain ⟨f1, f2, f3⟩ := A0.two
      go_wp2
      go_ret
      exact ⟨rfl, thenB (thenB (thenB (thenB b1 b2) b3) b4) (belowA _ _)⟩
    · have CP := Hid.mk (fun w => implPutNumber_ok x s w)
      have CQ := Hid.mk (fun w => specPutNumber_ok x s w)
      rw [show ptCode x s = 3 from if_neg hp, show ptVal x s = [] from if_neg hp] at CP CQ
      have hfd := field_bytes (.int .i64 3)
      clear hp
      go_wp2_with fail
      refine (CP.out _).mono ?_
      rintro e w2 ⟨c2, d2, rfl, o2, b2⟩
      go_wp2_with fail
      go_region_held3 (fun w' => w'.cell? ⟨w2.heap.size, 0, none⟩ = some (.int .i64 3)) (first | go_keep | (rw [hbk.cell (p := ⟨w2.heap.size, 0, none⟩) (by simp)]; go_keep)) ((go_at_call 12; refine (CQ.out _).mono ?_; rintro e wk ⟨ck, dk, rfl, ok, hbk⟩))
      have hb3 : Below w.heap.size w wk := (thenB (thenB b1 b2) (belowA _ _)).drew.trans (hbk.mono (by have h1 := b1.size; have h2 := b2.size; simp; omega))
      go_wp2
      go_ret
      exact ⟨rfl, hb3⟩
  · go_enter Try.func3, Try.ntmps3
    go_wp2_with (go_at_call 9; go_in)
    go_ret
    exact ⟨rfl, Below.refl _ _⟩

end Go.Proofs.Ytnclfbliimcpgaa
