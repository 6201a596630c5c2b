/- Selectors copied into a row of the call's own; the faults of lists. -/
import Derived.Test.YtngkahchhioncaaDoorSelL
import Derived.Deep.RegionHeld3
namespace Go.Proofs.YtngkahchhioncaaDoor
open Go.RowKit

/-- Nine cells of a row are set. -/
def set9 (L : List Value) (p : Nat) (x : S9) : List Value := (((((((((L.set (p) (.int .i64 x.a)).set (p + 1) (.int .i64 x.b)).set (p + 2) (.int .i64 x.c)).set (p + 3) (.int .i64 x.d)).set (p + 4) (.int .i64 x.e)).set (p + 5) (.int .i64 x.f)).set (p + 6) (.int .i64 x.g)).set (p + 7) (.int .i64 x.h)).set (p + 8) (.int .i64 x.r))

theorem set9_right (A L : List Value) (p : Nat) (x : S9) (h : A.length ≤ p) : set9 (A ++ L) p x = A ++ set9 L (p - A.length) x := by
  unfold set9
  rw [List.set_append_right _ _ h]
  rw [List.set_append_right _ _ (by omega), show p + 1 - A.length = p - A.length + 1 by omega]
  rw [List.set_append_right _ _ (by omega), show p + 2 - A.length = p - A.length + 2 by omega]
  rw [List.set_append_right _ _ (by omega), show p + 3 - A.length = p - A.length + 3 by omega]
  rw [List.set_append_right _ _ (by omega), show p + 4 - A.length = p - A.length + 4 by omega]
  rw [List.set_append_right _ _ (by omega), show p + 5 - A.length = p - A.length + 5 by omega]
  rw [List.set_append_right _ _ (by omega), show p + 6 - A.length = p - A.length + 6 by omega]
  rw [List.set_append_right _ _ (by omega), show p + 7 - A.length = p - A.length + 7 by omega]
  rw [List.set_append_right _ _ (by omega), show p + 8 - A.length = p - A.length + 8 by omega]

theorem set9_zero (y x : S9) (L : List Value) : set9 (rowV y ++ L) 0 x = rowV x ++ L := rfl

theorem set9_flat (l : List S9) (k : Nat) (x : S9) (h : k < l.length) : set9 (flat l) (k * 9) x = flat (l.set k x) := by
  induction l generalizing k with
  | nil => simp at h
  | cons y l ih =>
    cases k with
    | zero => rw [Nat.zero_mul]; exact set9_zero y x (flat l)
    | succ k =>
      simp only [flat, List.set_cons_succ]
      rw [set9_right _ _ _ _ (by rw [rowV_len]; omega), rowV_len, show (k + 1) * 9 - 9 = k * 9 by omega, ih k (by simpa using h)]

theorem stored9 {w : World} {base g cap n : Nat} {e : TypeId} {L : List Value} (h : w.ownsRow base e 9 (.slice (some ⟨g, 0, none⟩) n cap) n L) (k : Nat) (x : S9) :
    (((((((((w.setCell ⟨g, k * 9, none⟩ (.int .i64 x.a)).setCell ⟨g, k * 9 + 1, none⟩ (.int .i64 x.b)).setCell ⟨g, k * 9 + 2, none⟩ (.int .i64 x.c)).setCell ⟨g, k * 9 + 3, none⟩ (.int .i64 x.d)).setCell ⟨g, k * 9 + 4, none⟩ (.int .i64 x.e)).setCell ⟨g, k * 9 + 5, none⟩ (.int .i64 x.f)).setCell ⟨g, k * 9 + 6, none⟩ (.int .i64 x.g)).setCell ⟨g, k * 9 + 7, none⟩ (.int .i64 x.h)).setCell ⟨g, k * 9 + 8, none⟩ (.int .i64 x.r)).ownsRow base e 9 (.slice (some ⟨g, 0, none⟩) n cap) n (set9 L (k * 9) x) := by
  have h0 := (h.stored (k * 9) (.int .i64 x.a)).1
  have h1 := (h0.stored (k * 9 + 1) (.int .i64 x.b)).1
  have h2 := (h1.stored (k * 9 + 2) (.int .i64 x.c)).1
  have h3 := (h2.stored (k * 9 + 3) (.int .i64 x.d)).1
  have h4 := (h3.stored (k * 9 + 4) (.int .i64 x.e)).1
  have h5 := (h4.stored (k * 9 + 5) (.int .i64 x.f)).1
  have h6 := (h5.stored (k * 9 + 6) (.int .i64 x.g)).1
  have h7 := (h6.stored (k * 9 + 7) (.int .i64 x.h)).1
  have h8 := (h7.stored (k * 9 + 8) (.int .i64 x.r)).1
  exact h8

/-- A row of selectors of which the first 'k' are written. -/
def fillS (xs : List S9) (k n : Nat) : List S9 := xs.take k ++ List.replicate (n - k) z9

theorem fillS_zero (xs : List S9) (n : Nat) : fillS xs 0 n = List.replicate n z9 := by simp [fillS]

theorem fillS_all (xs : List S9) (n : Nat) (h : xs.length = n) : fillS xs n n = xs := by simp [fillS, ← h]

theorem length_fillS (xs : List S9) (k n : Nat) (h : xs.length = n) (hk : k ≤ n) : (fillS xs k n).length = n := by
  simp [fillS]; omega

theorem fillS_set (xs : List S9) (k n : Nat) (h : xs.length = n) (hk : k < n) : (fillS xs k n).set k (xs.getD k z9) = fillS xs (k + 1) n := by
  unfold fillS
  rw [take_snocS xs k (by omega), List.set_append_right _ _ (by simp; omega)]
  have hlen : (xs.take k).length = k := by simp; omega
  rw [hlen, Nat.sub_self]
  obtain ⟨m, hm⟩ : ∃ m, n - k = m + 1 := ⟨n - k - 1, by omega⟩
  rw [hm, show n - (k + 1) = m from by omega]
  simp [List.replicate_succ]

theorem fillS_at (xs : List S9) (k n : Nat) (h : xs.length = n) (hk : k < n) : (fillS xs k n).getD k z9 = z9 := by
  unfold fillS
  have hlen : (xs.take k).length = k := by simp; omega
  rw [List.getD, List.getElem?_append_right (by omega), hlen, Nat.sub_self]
  obtain ⟨m, hm⟩ : ∃ m, n - k = m + 1 := ⟨n - k - 1, by omega⟩
  rw [hm]; rfl

theorem flat_zeros (n : Nat) : flat (List.replicate n z9) = List.replicate (n * 9) (.int .i64 0) := by
  induction n with
  | zero => rfl
  | succ n ih =>
    rw [List.replicate_succ, flat, ih, show (n + 1) * 9 = 9 + n * 9 by omega, ← List.replicate_append_replicate]
    rfl

theorem made_zeros (n : Nat) : (madeCells #[.int .i64 0, .int .i64 0, .int .i64 0, .int .i64 0, .int .i64 0, .int .i64 0, .int .i64 0, .int .i64 0, .int .i64 0] n).toList = List.replicate n (.int .i64 0) := by
  rw [List.eq_replicate_iff]
  refine ⟨by simp [madeCells], fun v hv => ?_⟩
  simp only [madeCells, Array.toList_map, List.mem_map] at hv
  obtain ⟨i, _, rfl⟩ := hv
  have hi : i % 9 < 9 := Nat.mod_lt _ (by decide)
  show (#[.int .i64 0, .int .i64 0, .int .i64 0, .int .i64 0, .int .i64 0, .int .i64 0, .int .i64 0, .int .i64 0, .int .i64 0] : Array Value)[i % 9]! = _
  generalize i % 9 = j at *
  match j, hi with
  | 0, _ => rfl
  | 1, _ => rfl
  | 2, _ => rfl
  | 3, _ => rfl
  | 4, _ => rfl
  | 5, _ => rfl
  | 6, _ => rfl
  | 7, _ => rfl
  | 8, _ => rfl

theorem Tryd.info_sel : (Tryd.prog.info? 32).map (fun i => (i.zero, i.size, i.bytes)) = some (some (.agg #[.int .i64 0, .int .i64 0, .int .i64 0, .int .i64 0, .int .i64 0, .int .i64 0, .int .i64 0, .int .i64 0, .int .i64 0]), 9, 72) := by kernel_rfl

end Go.Proofs.YtngkahchhioncaaDoor
