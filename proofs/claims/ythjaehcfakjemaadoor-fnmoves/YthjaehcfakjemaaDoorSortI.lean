/- The library's sort of numbers, and its copy of a map of terms. -/
import Derived.Test.YthjaehcfakjemaaDoorTmG
import Derived.Test.YthjaehcfakjemaaDoorShelfG
import Derived.Lib.OwnBridge
namespace Go.Proofs.YthjaehcfakjemaaDoor
open Go.RowKit

/-- A list in rising order. -/
@[irreducible] def srt (zs : List Int) : List Int := zs.mergeSort fun x y => decide (x ≤ y)

theorem srt_len (zs : List Int) : (srt zs).length = zs.length := by unfold srt; exact List.length_mergeSort _

theorem srt_mem {zs : List Int} {z : Int} : z ∈ srt zs ↔ z ∈ zs := by unfold srt; exact List.mem_mergeSort

theorem srt_perm (zs : List Int) : (srt zs).Perm zs := by unfold srt; exact List.mergeSort_perm _ _

theorem srt_rising (zs : List Int) : (srt zs).Pairwise (fun x y => x ≤ y) := by
  unfold srt
  have h := List.pairwise_mergeSort (le := fun x y : Int => decide (x ≤ y)) (fun a b c h1 h2 => by simp at h1 h2 ⊢; omega) (fun a b => by simp; omega) zs
  exact h.imp (fun h => by simpa using h)

theorem sm_grow {X : Nat → Prop} {w0 w : World} (h : Sm X w0 w) (os : Array Obj) : Sm X w0 (Go.Sort.grow w os) :=
  ⟨h.os, h.tape, h.output, by simp [Go.Sort.grow]; have := h.size; omega, fun k hk hx => by
    rw [← h.block k hk hx]
    simp only [Go.Sort.grow]
    rw [Array.getElem?_append_left (Nat.lt_of_lt_of_le hk h.size)]⟩

set_option maxHeartbeats 1000000 in
theorem sort_ok (base g cap : Nat) (zs : List Int) (m : Nat) (w : World) (h : Own .i64 2 w base (some ⟨g, 0, none⟩) cap zs) (hm : zs.length = m) (hl : m ≤ 1000) :
    Calls Tryd.prog 63 #[.slice (some ⟨g, 0, none⟩) m cap] w fun e w' => e = .returned (.tuple #[]) ∧ Own .i64 2 w' base (some ⟨g, 0, none⟩) cap (srt zs) ∧ Sm (fun k => k = g) w w' := by
  subst hm
  obtain ⟨g', cap', hv, hb, hg, _, _, _, hH⟩ := Go.Lib.holds_of_ownsRow h (by simp)
  simp only [Value.slice.injEq, Option.some.injEq, Addr.mk.injEq, and_true, true_and] at hv
  obtain ⟨rfl, rfl⟩ := hv
  refine (AnyM.slices_Sort_int Tryd.sort g 0 cap zs w hH hg (by omega)).mono ?_
  rintro e w' ⟨rfl, n, os, rfl⟩
  have hs : Sm (fun k => k = g) w (Go.Sort.putRow (Value.int .i64) (Go.Sort.ahead w n) g 0 (zs.mergeSort fun x y => decide (x ≤ y)).toArray) :=
    ⟨rfl, rfl, rfl, by simp [Go.Sort.putRow, Go.Sort.mapBlock, Go.Sort.ahead], fun k hk hx => by
      simp [Go.Sort.putRow, Go.Sort.mapBlock, Go.Sort.ahead, Array.getElem?_modify, show g ≠ k from fun e => hx e.symm]⟩
  have ho := Go.Lib.ownsRow_putRow (q := n) (k := zs.length) h (ys := zs.mergeSort fun x y => decide (x ≤ y)) (List.length_mergeSort _) (Nat.le_refl _)
  refine ⟨rfl, ?_, sm_grow hs os⟩
  have hlen := srt_len zs
  have ho2 : Own .i64 2 (Go.Sort.putRow (Value.int .i64) (Go.Sort.ahead w n) g 0 (zs.mergeSort fun x y => decide (x ≤ y)).toArray) base (some ⟨g, 0, none⟩) cap (srt zs) := by
    unfold Own
    rw [hlen]
    rw [List.take_of_length_le (by rw [List.length_mergeSort]; exact Nat.le_refl _)] at ho
    unfold srt
    exact ho
  exact ho2.sm (X := fun _ => False) (sm_grow (Sm.refl _ _) os) (fun _ _ h => h)

theorem clone_ok (b : Nat) (M : T4 → Option Int) (c : Nat) (w : World) (h : TM w b M c) :
    Calls Tryd.prog 62 #[.map (some b)] w fun e w' => e = .returned (.map (some w.heap.size)) ∧ TM w' w.heap.size M c ∧ Below w.heap.size w w' := by
  obtain ⟨D, n, h, r⟩ := h
  refine (AnyW.maps_Clone_owns Tryd.cloneM 70 (plainElem Tryd.prog 2) b n D w h).mono ?_
  rintro e w' ⟨rfl, h1, _, hb⟩
  exact ⟨rfl, ⟨D, n, h1, r⟩, hb⟩

end Go.Proofs.YthjaehcfakjemaaDoor
