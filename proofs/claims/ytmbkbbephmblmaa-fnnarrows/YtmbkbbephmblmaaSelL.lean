/- Slices of selectors that a call reads, makes and writes. -/
import Derived.Test.YtmbkbbephmblmaaSelH
import Derived.Deep.RegionHeld3
namespace Go.Proofs.Ytmbkbbephmblmaa
open Go.RowKit

/-- The cells of a selector. -/
def rowV (x : S9) : List Value := [.int .i64 x.a, .int .i64 x.b, .int .i64 x.c, .int .i64 x.d, .int .i64 x.e, .int .i64 x.f, .int .i64 x.g, .int .i64 x.h, .int .i64 x.r]

/-- A selector of noughts. -/
def z9 : S9 := ⟨0, 0, 0, 0, 0, 0, 0, 0, 0⟩

/-- The cells of selectors, one behind the other. -/
def flat : List S9 → List Value
  | [] => []
  | x :: xs => rowV x ++ flat xs

theorem rowV_len (x : S9) : (rowV x).length = 9 := rfl

theorem flat_len (xs : List S9) : (flat xs).length = xs.length * 9 := by
  induction xs with
  | nil => rfl
  | cons x xs ih => simp only [flat, List.length_append, rowV_len, ih, List.length_cons]; omega

theorem flat_app (xs ys : List S9) : flat (xs ++ ys) = flat xs ++ flat ys := by
  induction xs with
  | nil => rfl
  | cons x xs ih => simp only [List.cons_append, flat, ih, List.append_assoc]

theorem flat_at (xs : List S9) (k j : Nat) (hk : k < xs.length) (hj : j < 9) : (flat xs)[k * 9 + j]? = (rowV (xs.getD k z9))[j]? := by
  induction xs generalizing k with
  | nil => simp at hk
  | cons x xs ih =>
    cases k with
    | zero =>
      simp only [flat, Nat.zero_mul, Nat.zero_add]
      rw [List.getElem?_append_left (by rw [rowV_len]; exact hj)]
      simp [List.getD]
    | succ k =>
      simp only [flat]
      rw [List.getElem?_append_right (by rw [rowV_len]; omega), rowV_len, show (k + 1) * 9 + j - 9 = k * 9 + j by omega, ih k (by simpa using hk)]
      simp [List.getD]

/-- A slice of selectors at address 'a' reads as 'xs' in 'w'. -/
def RdL (w : World) (a : Option Addr) (xs : List S9) : Prop :=
  xs = [] ∨ ∃ b off, a = some ⟨b, off, none⟩ ∧ ∀ i j, i < xs.length → j < 9 → w.cell? ⟨b, off + i * 9 + j, none⟩ = (rowV (xs.getD i z9))[j]?

/-- A slice of selectors that is the call's own. -/
def OwnL (w : World) (base : Nat) (a : Option Addr) (cap : Nat) (xs : List S9) : Prop :=
  w.ownsRow base 27 9 (.slice a xs.length cap) xs.length (flat xs)

theorem RdL.kept {w w' : World} {a : Option Addr} {xs : List S9} (h : RdL w a xs) (hb : Below w.heap.size w w') : RdL w' a xs := by
  rcases h with h | ⟨b, off, rfl, hc⟩
  · exact .inl h
  · refine .inr ⟨b, off, rfl, fun i j hi hj => ?_⟩
    have h1 := hc i j hi hj
    obtain ⟨v, hv⟩ : ∃ v, (rowV (xs.getD i z9))[j]? = some v := ⟨_, List.getElem?_eq_getElem (by rw [rowV_len]; exact hj)⟩
    rw [hv] at h1 ⊢
    exact (hb.cell (World.block_lt_of_cell? (a := ⟨b, off + i * 9 + j, none⟩) w h1)).trans h1

theorem OwnL.rd {w : World} {base : Nat} {a : Option Addr} {cap : Nat} {xs : List S9} (h : OwnL w base a cap xs) : RdL w a xs := by
  rcases h.2 with ⟨_, h0⟩ | ⟨g, cap', cur, hv, _⟩
  · exact .inl (List.eq_nil_of_length_eq_zero h0)
  · simp only [Value.slice.injEq, true_and] at hv
    obtain ⟨rfl, rfl⟩ := hv
    refine .inr ⟨g, 0, rfl, fun i j hi hj => ?_⟩
    rw [Nat.zero_add, World.ownsRow.cellAt h (i * 9 + j) (by omega), flat_at xs i j hi hj]

theorem OwnL.lt {w : World} {base : Nat} {a : Option Addr} {cap : Nat} {xs : List S9} (h : OwnL w base a cap xs) : ∀ b, a = some b → base ≤ b.block ∧ b.block < w.heap.size := by
  intro b hb
  subst hb
  exact World.ownsRow.lt h b.block rfl

theorem OwnL.grown {w w' : World} {base : Nat} {a : Option Addr} {cap : Nat} {xs : List S9} {row : Option Nat} (h : OwnL w base a cap xs) (hg : w.grownBy w' row)
    (hne : ∀ b, a = some b → row ≠ some b.block) : OwnL w' base a cap xs := by
  refine World.ownsRow.kept h hg ?_
  cases a with
  | none => exact .inl rfl
  | some b => exact .inr fun e => hne b rfl e.symm

theorem OwnL.kept {w w' : World} {base : Nat} {a : Option Addr} {cap : Nat} {xs : List S9} (h : OwnL w base a cap xs) (hb : Below w.heap.size w w') : OwnL w' base a cap xs :=
  h.grown (Below.grownBy hb none) fun _ _ => by simp

theorem OwnL.mono {w : World} {base base' : Nat} {a : Option Addr} {cap : Nat} {xs : List S9} (h : OwnL w base a cap xs) (hb : base' ≤ base) : OwnL w base' a cap xs := by
  obtain ⟨h1, h2⟩ := h
  refine ⟨h1, ?_⟩
  rcases h2 with h2 | ⟨g, cap', cur, hv, hg, r⟩
  · exact .inl h2
  · exact .inr ⟨g, cap', cur, hv, by omega, r⟩

theorem RdL.nine {w : World} {b off : Nat} {xs : List S9} (hc : ∀ i j, i < xs.length → j < 9 → w.cell? ⟨b, off + i * 9 + j, none⟩ = (rowV (xs.getD i z9))[j]?) (k : Nat) (hk : k < xs.length) (x : S9) (hx : xs.getD k z9 = x) :
    w.cell? ⟨b, off + k * 9, none⟩ = some (.int .i64 x.a) ∧ w.cell? ⟨b, off + k * 9 + 1, none⟩ = some (.int .i64 x.b) ∧ w.cell? ⟨b, off + k * 9 + 2, none⟩ = some (.int .i64 x.c) ∧ w.cell? ⟨b, off + k * 9 + 3, none⟩ = some (.int .i64 x.d) ∧ w.cell? ⟨b, off + k * 9 + 4, none⟩ = some (.int .i64 x.e) ∧ w.cell? ⟨b, off + k * 9 + 5, none⟩ = some (.int .i64 x.f) ∧ w.cell? ⟨b, off + k * 9 + 6, none⟩ = some (.int .i64 x.g) ∧ w.cell? ⟨b, off + k * 9 + 7, none⟩ = some (.int .i64 x.h) ∧ w.cell? ⟨b, off + k * 9 + 8, none⟩ = some (.int .i64 x.r) := by
  subst hx
  exact ⟨hc k 0 hk (by decide), hc k 1 hk (by decide), hc k 2 hk (by decide), hc k 3 hk (by decide), hc k 4 hk (by decide), hc k 5 hk (by decide), hc k 6 hk (by decide), hc k 7 hk (by decide), hc k 8 hk (by decide)⟩

theorem getD_mem {xs : List S9} {k : Nat} (h : k < xs.length) : xs.getD k z9 ∈ xs := by
  rw [show xs.getD k z9 = xs[k] by simp [List.getD, h]]; exact List.getElem_mem _

theorem take_snocS (xs : List S9) (k : Nat) (h : k < xs.length) : xs.take (k + 1) = xs.take k ++ [xs.getD k z9] := by
  rw [List.take_add_one]
  simp [List.getD, h]

end Go.Proofs.Ytmbkbbephmblmaa
