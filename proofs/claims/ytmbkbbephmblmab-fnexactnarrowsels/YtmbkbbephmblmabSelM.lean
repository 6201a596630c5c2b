/- Selectors copied into a row of the call's own; the faults of lists. -/
import Derived.Test.YtmbkbbephmblmabSelL
import Derived.Deep.RegionHeld3
namespace Go.Proofs.Ytmbkbbephmblmab
open Go.RowKit

/-- Nine cells of a row are set. -/
def set9 (L : List Value) (p : Nat) (x : S9) : List Value := (((((((((L.set (p) (.int .i64 x.a)).set (p + 1) (.int .i64 x.b)).set (p + 2) (.int .i64 x.c)).set (p + 3) (.int .i64 x.d)).set (p + 4) (.int .i64 x.e)).set (p + 5) (.int .i64 x.f)).set (p + 6) (.int .i64 x.g)).set (p + 7) (.int .i64 x.h)).set (p + 8) (.int .i64 x.r))

theorem set9_right (A L : List Value) (p : Nat) (x : S9) (h : A.length ≤ p) : set9 (A ++ L) p x = A ++ set9 L (p - A.length) x := by
  unfold set9
  rw [List.set_append_right _ _ h]
  rw [List.set_append_right _ _ (by omega), show p + 1 - A.length = p - A.length + 1 by omega]
  rw [List.set_append_right _ _ (by omega), show p + 2 - A.length = p - A.length + 2 by omega]
  rw [List.set_append_right _ _ (by omega), show p + 3 - A.length = p - A.length + 3 by omega]
  rw [List.set_append_right _ _ (by omega), show p + 4 - A.length = p - A.length + 4 by omega]
  rw [List.set_append_right _ _ (by omega), show p + 5 - A.length = p - A.length + 5 by omega]
  rw [List.set_append_right _ _ (by omega), show p + 6 - A.length = p - A.length + 6 by omega]
  rw [List.set_append_right _ _ (by omega), show p + 7 - A.length = p - A.length + 7 by omega]
  rw [List.set_append_right _ _ (by omega), show p + 8 - A.length = p - A.length + 8 by omega]

theorem set9_zero (y x : S9) (L : List Value) : set9 (rowV y ++ L) 0 x = rowV x ++ L := rfl

theorem set9_flat (l : List S9) (k : Nat) (x : S9) (h : k < l.length) : set9 (flat l) (k * 9) x = flat (l.set k x) := by
  induction l generalizing k with
  | nil => simp at h
  | cons y l ih =>
    cases k with
    | zero => rw [Nat.zero_mul]; exact set9_zero y x (flat l)
    | succ k =>
      simp only [flat, List.set_cons_succ]
      rw [set9_right _ _ _ _ (by rw [rowV_len]; omega), rowV_len, show (k + 1) * 9 - 9 = k * 9 by omega, ih k (by simpa using h)]

theorem stored9 {w : World} {base g cap n : Nat} {e : TypeId} {L : List Value} (h : w.ownsRow base e 9 (.slice (some ⟨g, 0, none⟩) n cap) n L) (k : Nat) (x : S9) :
    (((((((((w.setCell ⟨g, k * 9, none⟩ (.int .i64 x.a)).setCell ⟨g, k * 9 + 1, none⟩ (.int .i64 x.b)).setCell ⟨g, k * 9 + 2, none⟩ (.int .i64 x.c)).setCell ⟨g, k * 9 + 3, none⟩ (.int .i64 x.d)).setCell ⟨g, k * 9 + 4, none⟩ (.int .i64 x.e)).setCell ⟨g, k * 9 + 5, none⟩ (.int .i64 x.f)).setCell ⟨g, k * 9 + 6, none⟩ (.int .i64 x.g)).setCell ⟨g, k * 9 + 7, none⟩ (.int .i64 x.h)).setCell ⟨g, k * 9 + 8, none⟩ (.int .i64 x.r)).ownsRow base e 9 (.slice (some ⟨g, 0, none⟩) n cap) n (set9 L (k * 9) x) := by
  have h0 := (h.stored (k * 9) (.int .i64 x.a)).1
  have h1 := (h0.stored (k * 9 + 1) (.int .i64 x.b)).1
  have h2 := (h1.stored (k * 9 + 2) (.int .i64 x.c)).1
  have h3 := (h2.stored (k * 9 + 3) (.int .i64 x.d)).1
  have h4 := (h3.stored (k * 9 + 4) (.int .i64 x.e)).1
  have h5 := (h4.stored (k * 9 + 5) (.int .i64 x.f)).1
  have h6 := (h5.stored (k * 9 + 6) (.int .i64 x.g)).1
  have h7 := (h6.stored (k * 9 + 7) (.int .i64 x.h)).1
  have h8 := (h7.stored (k * 9 + 8) (.int .i64 x.r)).1
  exact h8

/-- A row of selectors of which the first 'k' are written. -/
def fillS (xs : List S9) (k n : Nat) : List S9 := xs.take k ++ List.replicate (n - k) z9

theorem fillS_zero (xs : List S9) (n : Nat) : fillS xs 0 n = List.replicate n z9 := by simp [fillS]

theorem fillS_all (xs : List S9) (n : Nat) (h : xs.length = n) : fillS xs n n = xs := by simp [fillS, ← h]

theorem length_fillS (xs : List S9) (k n : Nat) (h : xs.length = n) (hk : k ≤ n) : (fillS xs k n).length = n := by
  simp [fillS]; omega

theorem fillS_set (xs : List S9) (k n : Nat) (h : xs.length = n) (hk : k < n) : (fillS xs k n).set k (xs.getD k z9) = fillS xs (k + 1) n := by
  unfold fillS
  rw [take_snocS xs k (by omega), List.set_append_right _ _ (by simp; omega)]
  have hlen : (xs.take k).length = k := by simp; omega
  rw [hlen, Nat.sub_self]
  obtain ⟨m, hm⟩ : ∃ m, n - k = m + 1 := ⟨n - k - 1, by omega⟩
  rw [hm, show n - (k + 1) = m from by omega]
  simp [List.replicate_succ]

theorem fillS_at (xs : List S9) (k n : Nat) (h : xs.length = n) (hk : k < n) : (fillS xs k n).getD k z9 = z9 := by
  unfold fillS
  have hlen : (xs.take k).length = k := by simp; omega
  rw [List.getD, List.getElem?_append_right (by omega), hlen, Nat.sub_self]
  obtain ⟨m, hm⟩ : ∃ m, n - k = m + 1 := ⟨n - k - 1, by omega⟩
  rw [hm]; rfl

theorem flat_zeros (n : Nat) : flat (List.replicate n z9) = List.replicate (n * 9) (.int .i64 0) := by
  induction n with
  | zero => rfl
  | succ n ih =>
    rw [List.replicate_succ, flat, ih, show (n + 1) * 9 = 9 + n * 9 by omega, ← List.replicate_append_replicate]
    rfl

theorem made_zeros (n : Nat) : (madeCells #[.int .i64 0, .int .i64 0, .int .i64 0, .int .i64 0, .int .i64 0, .int .i64 0, .int .i64 0, .int .i64 0, .int .i64 0] n).toList = List.replicate n (.int .i64 0) := by
  rw [List.eq_replicate_iff]
  refine ⟨by simp [madeCells], fun v hv => ?_⟩
  simp only [madeCells, Array.toList_map, List.mem_map] at hv
  obtain ⟨i, _, rfl⟩ := hv
  have hi : i % 9 < 9 := Nat.mod_lt _ (by decide)
  show (#[.int .i64 0, .int .i64 0, .int .i64 0, .int .i64 0, .int .i64 0, .int .i64 0, .int .i64 0, .int .i64 0, .int .i64 0] : Array Value)[i % 9]! = _
  generalize i % 9 = j at *
  match j, hi with
  | 0, _ => rfl
  | 1, _ => rfl
  | 2, _ => rfl
  | 3, _ => rfl
  | 4, _ => rfl
  | 5, _ => rfl
  | 6, _ => rfl
  | 7, _ => rfl
  | 8, _ => rfl

theorem Try.info_sel : (Try.prog.info? 29).map (fun i => (i.zero, i.size, i.bytes)) = some (some (.agg #[.int .i64 0, .int .i64 0, .int .i64 0, .int .i64 0, .int .i64 0, .int .i64 0, .int .i64 0, .int .i64 0, .int .i64 0]), 9, 72) := by kernel_rfl

set_option maxHeartbeats 1000000 in
theorem toSelS_ok (a : Option Addr) (n ca : Nat) (xs : List S9) (w : World) (ha : RdL w a xs) (hn : xs.length = n) (hx : n ≤ 1048576) :
    Calls Try.prog 14 #[.slice a n ca] w fun e w' => e = .returned (.slice (some ⟨w.heap.size, 0, none⟩) n n) ∧ OwnL w' w.heap.size (some ⟨w.heap.size, 0, none⟩) n xs ∧ Below w.heap.size w w' := by
  obtain ⟨i0, hi, hz0, hz1, hz2⟩ := info_parts Try.info_sel
  go_enter Try.func14, Try.ntmps14
  go_wp2_with (at_make; refine wpList_make_full _ rfl _ _ 35 rfl w.heap.size 29 i0 (.agg #[.int .i64 0, .int .i64 0, .int .i64 0, .int .i64 0, .int .i64 0, .int .i64 0, .int .i64 0, .int .i64 0, .int .i64 0]) 9 Try.underlying35 hi hz0 hz1 .i64 .i64 _ _ n rfl rfl rfl rfl (by rw [hz2]; omega) (by unfold maxLen; omega) (Nat.le_refl _) ?_)
  intro w1 hown hgrow
  have hown0 : w1.ownsRow w.heap.size 29 9 (.slice (some ⟨w.heap.size, 0, none⟩) n n) n (flat (fillS xs 0 n)) := by
    rw [fillS_zero, flat_zeros, ← made_zeros]
    exact hown
  have hbel : Below w.heap.size w w1 := (Below.refl _ _).grown hgrow (Nat.le_refl _) (by intro k hk; cases hk)
  clear hown hgrow
  go_wp2
  go_loopw [4] (fun i wr => ∃ k : Nat, k ≤ n ∧ i = .int .i64 k ∧ wr.ownsRow w.heap.size 29 9 (.slice (some ⟨w.heap.size, 0, none⟩) n n) n (flat (fillS xs k n)) ∧ Below w.heap.size w wr) (fun i _ => n - (intOf i).toNat)
  case atStart => exact ⟨0, Nat.zero_le _, rfl, hown0, hbel⟩
  case round =>
    obtain ⟨k, hk, rfl, hown, hb⟩ := hrel
    by_cases hlt : k < n
    · replace ha := ha.kept hb
      rcases ha with ha | ⟨b1, o1, rfl, hca⟩
      · simp [ha] at hn; omega
      obtain ⟨x, hx1⟩ : ∃ x, xs.getD k z9 = x := ⟨_, rfl⟩
      obtain ⟨p0, p1, p2, p3, p4, p5, p6, p7, p8⟩ := RdL.nine hca k (by omega) x hx1
      have hk1 : (k : Int) < (n : Int) := by omega
      have hfl : (fillS xs k n).length = n := length_fillS xs k n hn hk
      have hf0 := fillS_at xs k n hn hlt
      have hfs := fillS_set xs k n hn hlt
      rw [hx1] at hfs
      have HB := Hid.mk hb
      have HO := Hid.mk hown
      have HS : Hid (set9 (flat (fillS xs k n)) (k * 9) x = flat (fillS xs (k + 1) n)) := Hid.mk (by rw [← hfs]; exact set9_flat _ _ _ (by omega))
      clear hca hown hb hx1 hfs
      go_wp2_with fail
      refine (toSel_ok x _).mono ?_
      rintro e w2 ⟨rfl, b2⟩
      have hown2 : w2.ownsRow w.heap.size 29 9 (.slice (some ⟨w.heap.size, 0, none⟩) n n) n (flat (fillS xs k n)) := World.ownsRow.kept HO.out (Below.grownBy b2 none) (.inr (by simp [Value.ownBlock]))
      have B2 := Hid.mk (HB.out.trans (b2.mono HB.out.size))
      have zF := fun o => hown2.frozenAt o
      have cF : ∀ j, j < 9 → w2.cell? ⟨w.heap.size, k * 9 + j, none⟩ = some (.int .i64 0) := fun j hj => by
        rw [hown2.cellAt (k * 9 + j) (by omega), flat_at _ k j (by omega) hj, hf0]
        match j, hj with
        | 0, _ => rfl
        | 1, _ => rfl
        | 2, _ => rfl
        | 3, _ => rfl
        | 4, _ => rfl
        | 5, _ => rfl
        | 6, _ => rfl
        | 7, _ => rfl
        | 8, _ => rfl
      have c0 := cF 0 (by decide)
      have c1 := cF 1 (by decide)
      have c2 := cF 2 (by decide)
      have c3 := cF 3 (by decide)
      have c4 := cF 4 (by decide)
      have c5 := cF 5 (by decide)
      have c6 := cF 6 (by decide)
      have c7 := cF 7 (by decide)
      have c8 := cF 8 (by decide)
      simp only [Nat.add_zero] at c0
      have HN := Hid.mk (HS.out ▸ stored9 hown2 k x)
      clear cF hown2 b2 hf0 hfl p0 p1 p2 p3 p4 p5 p6 p7 p8
      go_wp2
      go_roundw
      case rel => exact ⟨k + 1, by omega, by go_num, HN.out, (((((((((B2.out.setCell (Nat.le_refl _) _).setCell (Nat.le_refl _) _).setCell (Nat.le_refl _) _).setCell (Nat.le_refl _) _).setCell (Nat.le_refl _) _).setCell (Nat.le_refl _) _).setCell (Nat.le_refl _) _).setCell (Nat.le_refl _) _).setCell (Nat.le_refl _) _)⟩
      case measure => simp [intOf]; omega
    · have hkn : k = n := by omega
      subst hkn
      rw [fillS_all xs k hn] at hown
      have HO := Hid.mk hown
      clear hown
      go_wp2
      go_ret
      exact ⟨rfl, by unfold OwnL; rw [hn]; exact HO.out, hb⟩

end Go.Proofs.Ytmbkbbephmblmab
