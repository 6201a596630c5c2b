/- The law's own helpers over slices of bytes, by contracts: compare, copy, mark, held. -/
import Derived.Test.YtdggihikkegjjaaProg
import Derived.Test.YtdggihikkegjjaaBase
namespace Go.Proofs.Ytdggihikkegjjaa
open Go.RowKit

theorem Try.info_u8 : (Try.prog.info? 5).map (fun i => (i.zero, i.size, i.bytes)) = some (some (.int .u8 0), 1, 1) := by kernel_rfl

set_option maxHeartbeats 400000 in
theorem eqByteS_drew (a b : Option Addr) (n m ca cb : Nat) (xs ys : List Int) (w : World) (ha : Rd .u8 w a xs) (hb : Rd .u8 w b ys) (hn : xs.length = n) (hm : ys.length = m) (hx : n ≤ maxLen) (hy : m ≤ maxLen) :
    Calls Try.prog 24 #[.slice a n ca, .slice b m cb] w fun e w' => e = .returned (.bool (decide (xs = ys))) ∧ ∃ q, w' = w.drewN q := by
  unfold maxLen at hx hy
  by_cases hl : n = m
  · subst hl
    go_enter Try.func24, Try.ntmps24
    go_wp2
    go_loopw [5] (fun i wr => ∃ k q : Nat, k ≤ n ∧ i = .int .i64 k ∧ wr = w.drewN q ∧ xs.take k = ys.take k) (fun i _ => n - (intOf i).toNat)
    case atStart => exact ⟨0, 0, Nat.zero_le _, rfl, rfl, rfl⟩
    case round =>
      obtain ⟨k, q, hk, rfl, rfl, htk⟩ := hrel
      have HT := Hid.mk htk
      clear htk
      by_cases hlt : k < n
      · rcases ha with ha | ⟨b1, o1, rfl, hca⟩
        · simp [ha] at hn; omega
        rcases hb with hb | ⟨b2, o2, rfl, hcb⟩
        · simp [hb] at hm; omega
        have h1 := hca k (by omega)
        have h2 := hcb k (by omega)
        have hk1 : (k : Int) < (n : Int) := by omega
        clear hca hcb
        go_wp2
        go_quiet (fail)
        go_wp2
        · go_ret
          exact ⟨ret_bool (eq_miss (by assumption)).symm, _, by rw [World.drewN_drewN]⟩
        · go_roundw
          case rel => exact ⟨k + 1, _, by omega, by go_num, rfl, take_next HT.out (by assumption)⟩
          case measure => simp [intOf]; omega
      · have hkn : k = n := by omega
        subst hkn
        go_wp2
        go_ret
        exact ⟨ret_bool (eq_all HT.out hn hm).symm, _, rfl⟩
  · have hne : ((n : Int) != (m : Int)) = true := by rw [bne_iff_ne]; omega
    have hd : decide (xs = ys) = false := by
      rw [decide_eq_false_iff_not]; intro h; subst h; omega
    rw [hd]
    clear hd
    go_enter Try.func24, Try.ntmps24
    go_wp2
    go_ret
    exact ⟨rfl, 0, rfl⟩

theorem eqByteS_ok (a b : Option Addr) (n m ca cb : Nat) (xs ys : List Int) (w : World) (ha : Rd .u8 w a xs) (hb : Rd .u8 w b ys) (hn : xs.length = n) (hm : ys.length = m) (hx : n ≤ maxLen) (hy : m ≤ maxLen) :
    Calls Try.prog 24 #[.slice a n ca, .slice b m cb] w fun e w' => e = .returned (.bool (decide (xs = ys))) ∧ Below w.heap.size w w' :=
  (eqByteS_drew a b n m ca cb xs ys w ha hb hn hm hx hy).mono fun _ _ ⟨he, q, hq⟩ => ⟨he, by rw [hq]; exact belowN (Below.refl _ _) q⟩

set_option maxHeartbeats 400000 in
theorem toByteS_at (a : Option Addr) (n ca : Nat) (xs : List Int) (w : World) (ha : Rd .u8 w a xs) (hn : xs.length = n) (hx : n ≤ 281474976710656) :
    Calls Try.prog 22 #[.slice a n ca] w fun e w' => e = .returned (.slice (some ⟨w.heap.size, 0, none⟩) n n) ∧ Own .u8 5 w' w.heap.size (some ⟨w.heap.size, 0, none⟩) n xs ∧ Below w.heap.size w w' := by
  obtain ⟨i0, hi, hz0, hz1, hz2⟩ := info_parts Try.info_u8
  go_enter Try.func22, Try.ntmps22
  go_wp2_with (at_make; refine wpList_make_full _ rfl _ _ 22 rfl w.heap.size 5 i0 (.int .u8 0) 1 Try.underlying22 hi hz0 hz1 .i64 .i64 _ _ n rfl rfl rfl rfl (by rw [hz2]; omega) (by unfold maxLen; omega) (Nat.le_refl _) ?_)
  intro w1 hown hgrow
  have hown0 : w1.ownsRow w.heap.size 5 1 (.slice (some ⟨w.heap.size, 0, none⟩) n n) n ((fill xs 0 n).map (Value.int .u8)) := by
    rw [fill_zero]
    simpa [toList_madeCells_one] using hown
  have hbel : Below w.heap.size w w1 := (Below.refl _ _).grown hgrow (Nat.le_refl _) (by intro k hk; cases hk)
  clear hown hgrow
  go_wp2
  go_loopw [4] (fun i wr => ∃ k : Nat, k ≤ n ∧ i = .int .i64 k ∧ wr.ownsRow w.heap.size 5 1 (.slice (some ⟨w.heap.size, 0, none⟩) n n) n ((fill xs k n).map (Value.int .u8)) ∧ Below w.heap.size w wr) (fun i _ => n - (intOf i).toNat)
  case atStart => exact ⟨0, Nat.zero_le _, rfl, hown0, hbel⟩
  case round =>
    obtain ⟨k, hk, rfl, hown, hb⟩ := hrel
    by_cases hlt : k < n
    · rcases ha with ha | ⟨b1, o1, rfl, hca⟩
      · simp [ha] at hn; omega
      have h0 := hca k (by omega)
      have h1 : wr.cell? ⟨b1, o1 + k, none⟩ = some (.int .u8 (xs.getD k 0)) := (hb.cell (World.block_lt_of_cell? (a := ⟨b1, o1 + k, none⟩) w h0)).trans h0
      have h2 : wr.frozen? ⟨w.heap.size, k, none⟩ = false := hown.frozenAt k
      have h3 : wr.cell? ⟨w.heap.size, k, none⟩ = some (.int .u8 ((fill xs k n).getD k 0)) := by
        rw [hown.cellAt k (by omega)]
        simp [List.getD, length_fill xs k n hn hk, hlt]
      have hk1 : (k : Int) < (n : Int) := by omega
      have hs := hown.stored k (.int .u8 (xs.getD k 0))
      rw [set_map, fill_set xs k n hn hlt] at hs
      have HS := Hid.mk hs.1
      have hb2 := hb.setCell (p := ⟨w.heap.size, k, none⟩) (Nat.le_refl _) (.int .u8 (xs.getD k 0))
      rw [getD_eq xs k (by omega)] at HS hb2
      clear hs hca hown h0
      go_wp2
      go_roundw
      case rel => exact ⟨k + 1, by omega, by go_num, HS.out, hb2⟩
      case measure => simp [intOf]; omega
    · have hkn : k = n := by omega
      subst hkn
      rw [fill_all xs k hn] at hown
      have HO := Hid.mk hown
      clear hown
      go_wp2
      go_ret
      exact ⟨rfl, by unfold Own; rw [hn]; exact HO.out, hb⟩

theorem toByteS_ok (a : Option Addr) (n ca : Nat) (xs : List Int) (w : World) (ha : Rd .u8 w a xs) (hn : xs.length = n) (hx : n ≤ 281474976710656) :
    Calls Try.prog 22 #[.slice a n ca] w fun e w' => ∃ c d, e = .returned (.slice c n d) ∧ Own .u8 5 w' w.heap.size c d xs ∧ Below w.heap.size w w' :=
  (toByteS_at a n ca xs w ha hn hx).mono fun _ _ ⟨he, ho, hb⟩ => ⟨_, _, he, ho, hb⟩

/-- What 'mark' lays: the numbers from q on, each brought to a byte. -/
def marks (q : Int) (n : Nat) : List Int := (List.range n).map fun (i : Nat) => (q + (i : Int)) % 256

theorem length_marks (q : Int) (n : Nat) : (marks q n).length = n := by simp [marks]

theorem marks_at (q : Int) (n k : Nat) (h : k < n) : (marks q n).getD k 0 = (q + (k : Int)) % 256 := by simp [marks, List.getD, h]

/-- A row of which the first 'k' bear their marks. -/
def markFill (q : Int) (xs : List Int) (k : Nat) : List Int := marks q k ++ xs.drop k

theorem markFill_zero (q : Int) (xs : List Int) : markFill q xs 0 = xs := by simp [markFill, marks]

theorem markFill_all (q : Int) (xs : List Int) (n : Nat) (h : xs.length = n) : markFill q xs n = marks q n := by simp [markFill, ← h]

theorem length_markFill (q : Int) (xs : List Int) (k n : Nat) (h : xs.length = n) (hk : k ≤ n) : (markFill q xs k).length = n := by simp [markFill, length_marks]; omega

theorem markFill_set (q : Int) (xs : List Int) (k n : Nat) (h : xs.length = n) (hk : k < n) : (markFill q xs k).set k ((q + (k : Int)) % 256) = markFill q xs (k + 1) := by
  unfold markFill
  rw [List.set_append_right _ _ (by rw [length_marks]; exact Nat.le_refl _), length_marks, Nat.sub_self, List.drop_eq_getElem_cons (by omega : k < xs.length), List.set_cons_zero]
  simp [marks, List.range_succ]

theorem Own.some_of {k : IntKind} {e : TypeId} {w : World} {base : Nat} {a : Option Addr} {cap : Nat} {zs : List Int} (h : Own k e w base a cap zs) (hp : 0 < zs.length) : ∃ g, a = some ⟨g, 0, none⟩ ∧ base ≤ g := by
  rcases h.2 with ⟨_, h0⟩ | ⟨g, cap', cur, hv, hb, _⟩
  · omega
  · simp only [Value.slice.injEq, true_and] at hv
    exact ⟨g, hv.1, hb⟩

theorem grownBy_trans {w w1 w2 : World} {row : Option Nat} (h : w.grownBy w1 row) (k : w1.grownBy w2 row) : w.grownBy w2 row :=
  ⟨k.os.trans h.os, k.tape.trans h.tape, k.output.trans h.output, Nat.le_trans h.size k.size, fun i hi hr => (k.block i (Nat.lt_of_lt_of_le hi h.size) hr).trans (h.block i hi hr)⟩

theorem Own.row {k : IntKind} {e : TypeId} {w : World} {base : Nat} {a : Option Addr} {cap n : Nat} {zs : List Int} (h : Own k e w base a cap zs) (hn : zs.length = n) : w.ownsRow base e 1 (.slice a n cap) n (zs.map (Value.int k)) := by
  unfold Own at h; rw [hn] at h; exact h

theorem Own.mk {k : IntKind} {e : TypeId} {w : World} {base : Nat} {a : Option Addr} {cap n : Nat} {zs : List Int} (h : w.ownsRow base e 1 (.slice a n cap) n (zs.map (Value.int k))) (hn : zs.length = n) : Own k e w base a cap zs := by
  unfold Own; rw [hn]; exact h

set_option maxHeartbeats 400000 in
theorem markByteS_ok (a : Option Addr) (n ca base : Nat) (xs : List Int) (q : Int) (w : World) (ha : Own .u8 5 w base a ca xs) (hn : xs.length = n) (h0 : 0 ≤ q) (hx : q + (n : Int) ≤ 9223372036854775807) :
    Calls Try.prog 25 #[.slice a n ca, .int .i64 q] w fun e w' => e = .returned (.int .i64 (q + (n : Int))) ∧ Own .u8 5 w' base a ca (marks q n) ∧ w.grownBy w' (a.map Addr.block) := by
  have hA := Hid.mk ha
  have ha0 : w.ownsRow base 5 1 (.slice a n ca) n ((markFill q xs 0).map (Value.int .u8)) := by
    rw [markFill_zero]; exact ha.row hn
  go_enter Try.func25, Try.ntmps25
  go_wp2
  go_loopw [1, 5] (fun m i wr => ∃ k : Nat, k ≤ n ∧ i = .int .i64 k ∧ m = .int .i64 (q + (k : Int)) ∧ wr.ownsRow base 5 1 (.slice a n ca) n ((markFill q xs k).map (Value.int .u8)) ∧ w.grownBy wr (a.map Addr.block)) (fun _ i _ => n - (intOf i).toNat)
  case atStart => exact ⟨0, Nat.zero_le _, rfl, by simp, ha0, World.grownBy.refl _ _⟩
  case round =>
    obtain ⟨k, hk, rfl, rfl, hown, hb⟩ := hrel
    by_cases hlt : k < n
    · obtain ⟨g, rfl, hg⟩ := hA.out.some_of (by omega)
      have h2 : wr.frozen? ⟨g, k, none⟩ = false := hown.frozenAt k
      have h3 : wr.cell? ⟨g, k, none⟩ = some (.int .u8 ((markFill q xs k).getD k 0)) := by
        rw [hown.cellAt k (by omega)]
        simp [List.getD, length_markFill q xs k n hn hk, hlt]
      have hk1 : (k : Int) < (n : Int) := by omega
      have hs := hown.stored k (.int .u8 ((q + (k : Int)) % 256))
      rw [set_map, markFill_set q xs k n hn hlt] at hs
      have HS := Hid.mk hs.1
      have HB := Hid.mk (grownBy_trans hb hs.2)
      clear hs hown hb ha0 ha
      go_wp2
      go_roundw
      case rel => exact ⟨k + 1, by omega, by go_num, by go_num, HS.out, HB.out⟩
      case measure => simp [intOf]; omega
    · have hkn : k = n := by omega
      subst hkn
      rw [markFill_all q xs k hn] at hown
      have HO := Hid.mk hown
      clear hown ha0 ha
      go_wp2
      go_ret
      exact ⟨rfl, Own.mk HO.out (length_marks _ _), hb⟩

set_option maxHeartbeats 400000 in
theorem heldByteS_ok (a : Option Addr) (n ca : Nat) (q : Int) (w : World) (ha : Rd .u8 w a (marks q n)) (h0 : 0 ≤ q) (hx : q + (n : Int) ≤ 9223372036854775807) :
    Calls Try.prog 61 #[.slice a n ca, .int .i64 q] w fun e w' => e = .returned (.int .i64 (q + (n : Int))) ∧ Below w.heap.size w w' := by
  go_enter Try.func61, Try.ntmps61
  go_wp2
  go_loopw [1, 5] (fun m i wr => ∃ k : Nat, k ≤ n ∧ i = .int .i64 k ∧ m = .int .i64 (q + (k : Int)) ∧ wr = w) (fun _ i _ => n - (intOf i).toNat)
  case atStart => exact ⟨0, Nat.zero_le _, rfl, by simp, rfl⟩
  case round =>
    obtain ⟨k, hk, rfl, rfl, rfl⟩ := hrel
    by_cases hlt : k < n
    · rcases ha with ha | ⟨b1, o1, rfl, hca⟩
      · have := congrArg List.length ha; simp [marks] at this; omega
      have h1 := hca k (by simpa [marks] using hlt)
      rw [marks_at q n k hlt] at h1
      have hk1 : (k : Int) < (n : Int) := by omega
      clear hca
      go_wp2
      go_roundw
      case rel => exact ⟨k + 1, by omega, by go_num, by go_num, by trivial⟩
      case measure => simp [intOf]; omega
    · have hkn : k = n := by omega
      subst hkn
      go_wp2
      go_ret
      exact ⟨rfl, Below.refl _ _⟩

end Go.Proofs.Ytdggihikkegjjaa
