/- Slices of selectors that a call reads, makes and writes. -/
import Derived.Test.YtngkahchhioncaaDoorSelH
import Derived.Deep.RegionHeld3
namespace Go.Proofs.YtngkahchhioncaaDoor
open Go.RowKit

/-- The cells of a selector. -/
def rowV (x : S9) : List Value := [.int .i64 x.a, .int .i64 x.b, .int .i64 x.c, .int .i64 x.d, .int .i64 x.e, .int .i64 x.f, .int .i64 x.g, .int .i64 x.h, .int .i64 x.r]

/-- A selector of noughts. -/
def z9 : S9 := ⟨0, 0, 0, 0, 0, 0, 0, 0, 0⟩

/-- The cells of selectors, one behind the other. -/
def flat : List S9 → List Value
  | [] => []
  | x :: xs => rowV x ++ flat xs

theorem rowV_len (x : S9) : (rowV x).length = 9 := rfl

theorem flat_len (xs : List S9) : (flat xs).length = xs.length * 9 := by
  induction xs with
  | nil => rfl
  | cons x xs ih => simp only [flat, List.length_append, rowV_len, ih, List.length_cons]; omega

theorem flat_app (xs ys : List S9) : flat (xs ++ ys) = flat xs ++ flat ys := by
  induction xs with
  | nil => rfl
  | cons x xs ih => simp only [List.cons_append, flat, ih, List.append_assoc]

theorem flat_at (xs : List S9) (k j : Nat) (hk : k < xs.length) (hj : j < 9) : (flat xs)[k * 9 + j]? = (rowV (xs.getD k z9))[j]? := by
  induction xs generalizing k with
  | nil => simp at hk
  | cons x xs ih =>
    cases k with
    | zero =>
      simp only [flat, Nat.zero_mul, Nat.zero_add]
      rw [List.getElem?_append_left (by rw [rowV_len]; exact hj)]
      simp [List.getD]
    | succ k =>
      simp only [flat]
      rw [List.getElem?_append_right (by rw [rowV_len]; omega), rowV_len, show (k + 1) * 9 + j - 9 = k * 9 + j by omega, ih k (by simpa using hk)]
      simp [List.getD]

/-- A slice of selectors at address 'a' reads as 'xs' in 'w'. -/
def RdL (w : World) (a : Option Addr) (xs : List S9) : Prop :=
  xs = [] ∨ ∃ b off, a = some ⟨b, off, none⟩ ∧ ∀ i j, i < xs.length → j < 9 → w.cell? ⟨b, off + i * 9 + j, none⟩ = (rowV (xs.getD i z9))[j]?

/-- A slice of selectors that is the call's own. -/
def OwnL (w : World) (base : Nat) (a : Option Addr) (cap : Nat) (xs : List S9) : Prop :=
  w.ownsRow base 32 9 (.slice a xs.length cap) xs.length (flat xs)

theorem RdL.kept {w w' : World} {a : Option Addr} {xs : List S9} (h : RdL w a xs) (hb : Below w.heap.size w w') : RdL w' a xs := by
  rcases h with h | ⟨b, off, rfl, hc⟩
  · exact .inl h
  · refine .inr ⟨b, off, rfl, fun i j hi hj => ?_⟩
    have h1 := hc i j hi hj
    obtain ⟨v, hv⟩ : ∃ v, (rowV (xs.getD i z9))[j]? = some v := ⟨_, List.getElem?_eq_getElem (by rw [rowV_len]; exact hj)⟩
    rw [hv] at h1 ⊢
    exact (hb.cell (World.block_lt_of_cell? (a := ⟨b, off + i * 9 + j, none⟩) w h1)).trans h1

theorem OwnL.rd {w : World} {base : Nat} {a : Option Addr} {cap : Nat} {xs : List S9} (h : OwnL w base a cap xs) : RdL w a xs := by
  rcases h.2 with ⟨_, h0⟩ | ⟨g, cap', cur, hv, _⟩
  · exact .inl (List.eq_nil_of_length_eq_zero h0)
  · simp only [Value.slice.injEq, true_and] at hv
    obtain ⟨rfl, rfl⟩ := hv
    refine .inr ⟨g, 0, rfl, fun i j hi hj => ?_⟩
    rw [Nat.zero_add, World.ownsRow.cellAt h (i * 9 + j) (by omega), flat_at xs i j hi hj]

theorem OwnL.lt {w : World} {base : Nat} {a : Option Addr} {cap : Nat} {xs : List S9} (h : OwnL w base a cap xs) : ∀ b, a = some b → base ≤ b.block ∧ b.block < w.heap.size := by
  intro b hb
  subst hb
  exact World.ownsRow.lt h b.block rfl

theorem OwnL.grown {w w' : World} {base : Nat} {a : Option Addr} {cap : Nat} {xs : List S9} {row : Option Nat} (h : OwnL w base a cap xs) (hg : w.grownBy w' row)
    (hne : ∀ b, a = some b → row ≠ some b.block) : OwnL w' base a cap xs := by
  refine World.ownsRow.kept h hg ?_
  cases a with
  | none => exact .inl rfl
  | some b => exact .inr fun e => hne b rfl e.symm

theorem OwnL.kept {w w' : World} {base : Nat} {a : Option Addr} {cap : Nat} {xs : List S9} (h : OwnL w base a cap xs) (hb : Below w.heap.size w w') : OwnL w' base a cap xs :=
  h.grown (Below.grownBy hb none) fun _ _ => by simp

theorem OwnL.mono {w : World} {base base' : Nat} {a : Option Addr} {cap : Nat} {xs : List S9} (h : OwnL w base a cap xs) (hb : base' ≤ base) : OwnL w base' a cap xs := by
  obtain ⟨h1, h2⟩ := h
  refine ⟨h1, ?_⟩
  rcases h2 with h2 | ⟨g, cap', cur, hv, hg, r⟩
  · exact .inl h2
  · exact .inr ⟨g, cap', cur, hv, by omega, r⟩

theorem RdL.nine {w : World} {b off : Nat} {xs : List S9} (hc : ∀ i j, i < xs.length → j < 9 → w.cell? ⟨b, off + i * 9 + j, none⟩ = (rowV (xs.getD i z9))[j]?) (k : Nat) (hk : k < xs.length) (x : S9) (hx : xs.getD k z9 = x) :
    w.cell? ⟨b, off + k * 9, none⟩ = some (.int .i64 x.a) ∧ w.cell? ⟨b, off + k * 9 + 1, none⟩ = some (.int .i64 x.b) ∧ w.cell? ⟨b, off + k * 9 + 2, none⟩ = some (.int .i64 x.c) ∧ w.cell? ⟨b, off + k * 9 + 3, none⟩ = some (.int .i64 x.d) ∧ w.cell? ⟨b, off + k * 9 + 4, none⟩ = some (.int .i64 x.e) ∧ w.cell? ⟨b, off + k * 9 + 5, none⟩ = some (.int .i64 x.f) ∧ w.cell? ⟨b, off + k * 9 + 6, none⟩ = some (.int .i64 x.g) ∧ w.cell? ⟨b, off + k * 9 + 7, none⟩ = some (.int .i64 x.h) ∧ w.cell? ⟨b, off + k * 9 + 8, none⟩ = some (.int .i64 x.r) := by
  subst hx
  exact ⟨hc k 0 hk (by decide), hc k 1 hk (by decide), hc k 2 hk (by decide), hc k 3 hk (by decide), hc k 4 hk (by decide), hc k 5 hk (by decide), hc k 6 hk (by decide), hc k 7 hk (by decide), hc k 8 hk (by decide)⟩

theorem getD_mem {xs : List S9} {k : Nat} (h : k < xs.length) : xs.getD k z9 ∈ xs := by
  rw [show xs.getD k z9 = xs[k] by simp [List.getD, h]]; exact List.getElem_mem _

theorem take_snocS (xs : List S9) (k : Nat) (h : k < xs.length) : xs.take (k + 1) = xs.take k ++ [xs.getD k z9] := by
  rw [List.take_add_one]
  simp [List.getD, h]

set_option maxHeartbeats 1000000 in
theorem eqSelS_ok (a b : Option Addr) (n ca cb : Nat) (xs : List S9) (w : World) (ha : RdL w a xs) (hb : RdL w b xs) (hn : xs.length = n) (hx : n ≤ maxLen) :
    Calls Tryd.prog 94 #[.slice a n ca, .slice b n cb] w fun e w' => e = .returned (.bool true) ∧ Below w.heap.size w w' := by
  unfold maxLen at hx
  go_enter Tryd.func94, Tryd.ntmps94
  go_wp2
  go_loopw [5] (fun i wr => ∃ k : Nat, k ≤ n ∧ i = .int .i64 k ∧ Below w.heap.size w wr) (fun i _ => n - (intOf i).toNat)
  case atStart => exact ⟨0, Nat.zero_le _, rfl, Below.refl _ _⟩
  case round =>
    obtain ⟨k, hk, rfl, hbel⟩ := hrel
    by_cases hlt : k < n
    · replace ha := ha.kept hbel
      replace hb := hb.kept hbel
      rcases ha with ha | ⟨b1, o1, rfl, hca⟩
      · simp [ha] at hn; omega
      rcases hb with hb | ⟨b2, o2, rfl, hcb⟩
      · simp [hb] at hn; omega
      obtain ⟨x, hx1⟩ : ∃ x, xs.getD k z9 = x := ⟨_, rfl⟩
      have HA := RdL.nine hca k (by omega) x hx1
      have HB := RdL.nine hcb k (by omega) x hx1
      have hk1 : (k : Int) < (n : Int) := by omega
      clear hca hcb
      obtain ⟨p0, p1, p2, p3, p4, p5, p6, p7, p8⟩ := HA
      obtain ⟨q0, q1, q2, q3, q4, q5, q6, q7, q8⟩ := HB
      clear hx1
      replace hbel := Hid.mk hbel
      have K : ∀ w' : World, Below wr.heap.size wr w' → (w'.cell? ⟨b1, o1 + k * 9, none⟩ = some (.int .i64 x.a) ∧ w'.cell? ⟨b1, o1 + k * 9 + 1, none⟩ = some (.int .i64 x.b) ∧ w'.cell? ⟨b1, o1 + k * 9 + 2, none⟩ = some (.int .i64 x.c) ∧ w'.cell? ⟨b1, o1 + k * 9 + 3, none⟩ = some (.int .i64 x.d) ∧ w'.cell? ⟨b1, o1 + k * 9 + 4, none⟩ = some (.int .i64 x.e) ∧ w'.cell? ⟨b1, o1 + k * 9 + 5, none⟩ = some (.int .i64 x.f) ∧ w'.cell? ⟨b1, o1 + k * 9 + 6, none⟩ = some (.int .i64 x.g) ∧ w'.cell? ⟨b1, o1 + k * 9 + 7, none⟩ = some (.int .i64 x.h) ∧ w'.cell? ⟨b1, o1 + k * 9 + 8, none⟩ = some (.int .i64 x.r) ∧ w'.cell? ⟨b2, o2 + k * 9, none⟩ = some (.int .i64 x.a) ∧ w'.cell? ⟨b2, o2 + k * 9 + 1, none⟩ = some (.int .i64 x.b) ∧ w'.cell? ⟨b2, o2 + k * 9 + 2, none⟩ = some (.int .i64 x.c) ∧ w'.cell? ⟨b2, o2 + k * 9 + 3, none⟩ = some (.int .i64 x.d) ∧ w'.cell? ⟨b2, o2 + k * 9 + 4, none⟩ = some (.int .i64 x.e) ∧ w'.cell? ⟨b2, o2 + k * 9 + 5, none⟩ = some (.int .i64 x.f) ∧ w'.cell? ⟨b2, o2 + k * 9 + 6, none⟩ = some (.int .i64 x.g) ∧ w'.cell? ⟨b2, o2 + k * 9 + 7, none⟩ = some (.int .i64 x.h) ∧ w'.cell? ⟨b2, o2 + k * 9 + 8, none⟩ = some (.int .i64 x.r)) := fun w' h => ⟨(h.cell (p := ⟨b1, o1 + k * 9, none⟩) (World.block_lt_of_cell? (a := ⟨b1, o1 + k * 9, none⟩) wr p0)).trans p0, (h.cell (p := ⟨b1, o1 + k * 9 + 1, none⟩) (World.block_lt_of_cell? (a := ⟨b1, o1 + k * 9 + 1, none⟩) wr p1)).trans p1, (h.cell (p := ⟨b1, o1 + k * 9 + 2, none⟩) (World.block_lt_of_cell? (a := ⟨b1, o1 + k * 9 + 2, none⟩) wr p2)).trans p2, (h.cell (p := ⟨b1, o1 + k * 9 + 3, none⟩) (World.block_lt_of_cell? (a := ⟨b1, o1 + k * 9 + 3, none⟩) wr p3)).trans p3, (h.cell (p := ⟨b1, o1 + k * 9 + 4, none⟩) (World.block_lt_of_cell? (a := ⟨b1, o1 + k * 9 + 4, none⟩) wr p4)).trans p4, (h.cell (p := ⟨b1, o1 + k * 9 + 5, none⟩) (World.block_lt_of_cell? (a := ⟨b1, o1 + k * 9 + 5, none⟩) wr p5)).trans p5, (h.cell (p := ⟨b1, o1 + k * 9 + 6, none⟩) (World.block_lt_of_cell? (a := ⟨b1, o1 + k * 9 + 6, none⟩) wr p6)).trans p6, (h.cell (p := ⟨b1, o1 + k * 9 + 7, none⟩) (World.block_lt_of_cell? (a := ⟨b1, o1 + k * 9 + 7, none⟩) wr p7)).trans p7, (h.cell (p := ⟨b1, o1 + k * 9 + 8, none⟩) (World.block_lt_of_cell? (a := ⟨b1, o1 + k * 9 + 8, none⟩) wr p8)).trans p8, (h.cell (p := ⟨b2, o2 + k * 9, none⟩) (World.block_lt_of_cell? (a := ⟨b2, o2 + k * 9, none⟩) wr q0)).trans q0, (h.cell (p := ⟨b2, o2 + k * 9 + 1, none⟩) (World.block_lt_of_cell? (a := ⟨b2, o2 + k * 9 + 1, none⟩) wr q1)).trans q1, (h.cell (p := ⟨b2, o2 + k * 9 + 2, none⟩) (World.block_lt_of_cell? (a := ⟨b2, o2 + k * 9 + 2, none⟩) wr q2)).trans q2, (h.cell (p := ⟨b2, o2 + k * 9 + 3, none⟩) (World.block_lt_of_cell? (a := ⟨b2, o2 + k * 9 + 3, none⟩) wr q3)).trans q3, (h.cell (p := ⟨b2, o2 + k * 9 + 4, none⟩) (World.block_lt_of_cell? (a := ⟨b2, o2 + k * 9 + 4, none⟩) wr q4)).trans q4, (h.cell (p := ⟨b2, o2 + k * 9 + 5, none⟩) (World.block_lt_of_cell? (a := ⟨b2, o2 + k * 9 + 5, none⟩) wr q5)).trans q5, (h.cell (p := ⟨b2, o2 + k * 9 + 6, none⟩) (World.block_lt_of_cell? (a := ⟨b2, o2 + k * 9 + 6, none⟩) wr q6)).trans q6, (h.cell (p := ⟨b2, o2 + k * 9 + 7, none⟩) (World.block_lt_of_cell? (a := ⟨b2, o2 + k * 9 + 7, none⟩) wr q7)).trans q7, (h.cell (p := ⟨b2, o2 + k * 9 + 8, none⟩) (World.block_lt_of_cell? (a := ⟨b2, o2 + k * 9 + 8, none⟩) wr q8)).trans q8⟩
      have K := Hid.mk K
      go_wp2
      refine wp_region_held_drew (S := (fun w' => w'.cell? ⟨b1, o1 + k * 9, none⟩ = some (.int .i64 x.a) ∧ w'.cell? ⟨b1, o1 + k * 9 + 1, none⟩ = some (.int .i64 x.b) ∧ w'.cell? ⟨b1, o1 + k * 9 + 2, none⟩ = some (.int .i64 x.c) ∧ w'.cell? ⟨b1, o1 + k * 9 + 3, none⟩ = some (.int .i64 x.d) ∧ w'.cell? ⟨b1, o1 + k * 9 + 4, none⟩ = some (.int .i64 x.e) ∧ w'.cell? ⟨b1, o1 + k * 9 + 5, none⟩ = some (.int .i64 x.f) ∧ w'.cell? ⟨b1, o1 + k * 9 + 6, none⟩ = some (.int .i64 x.g) ∧ w'.cell? ⟨b1, o1 + k * 9 + 7, none⟩ = some (.int .i64 x.h) ∧ w'.cell? ⟨b1, o1 + k * 9 + 8, none⟩ = some (.int .i64 x.r) ∧ w'.cell? ⟨b2, o2 + k * 9, none⟩ = some (.int .i64 x.a) ∧ w'.cell? ⟨b2, o2 + k * 9 + 1, none⟩ = some (.int .i64 x.b) ∧ w'.cell? ⟨b2, o2 + k * 9 + 2, none⟩ = some (.int .i64 x.c) ∧ w'.cell? ⟨b2, o2 + k * 9 + 3, none⟩ = some (.int .i64 x.d) ∧ w'.cell? ⟨b2, o2 + k * 9 + 4, none⟩ = some (.int .i64 x.e) ∧ w'.cell? ⟨b2, o2 + k * 9 + 5, none⟩ = some (.int .i64 x.f) ∧ w'.cell? ⟨b2, o2 + k * 9 + 6, none⟩ = some (.int .i64 x.g) ∧ w'.cell? ⟨b2, o2 + k * 9 + 7, none⟩ = some (.int .i64 x.h) ∧ w'.cell? ⟨b2, o2 + k * 9 + 8, none⟩ = some (.int .i64 x.r))) (by kernel_rfl) (K.out _ (Below.refl _ _).drew) (fun hHeld => ?_)
      refine wpAnyH_take (i := 0) (oi := _) (v := ?veu1) rfl (by kernel_rfl) (by kernel_rfl) (by kernel_rfl) (fun _ _ _ h => h) (Or.inl ⟨by rfl, ?hyeu1⟩) hHeld ?resteu1
      case hyeu1 => (intro w hSw; (try dsimp only at hSw); go_simp; first | done | with_reducible rfl)
      try simp only [Act.put, List.getElem_toArray, List.getElem_cons_zero, List.setIfInBounds_toArray, List.set_cons_zero, List.set_cons_succ]
      refine wpAnyH_take (i := 1) (oi := _) (v := ?veu2) rfl (by kernel_rfl) (by kernel_rfl) (by kernel_rfl) (fun _ _ _ h => h) (Or.inl ⟨by rfl, ?hyeu2⟩) hHeld ?resteu2
      case hyeu2 => (intro w hSw; (try dsimp only at hSw); go_simp; first | done | with_reducible rfl)
      try simp only [Act.put, List.getElem_toArray, List.getElem_cons_zero, List.getElem_cons_succ, List.setIfInBounds_toArray, List.set_cons_zero, List.set_cons_succ]
      refine wpAnyH_take (i := 2) (oi := _) (v := ?veu3) rfl (by kernel_rfl) (by kernel_rfl) (by kernel_rfl) (fun _ _ _ h => h) (Or.inl ⟨by rfl, ?hyeu3⟩) hHeld ?resteu3
      case hyeu3 => (intro w hSw; (try dsimp only at hSw); go_simp; first | done | with_reducible rfl)
      try simp only [Act.put, List.getElem_toArray, List.getElem_cons_zero, List.getElem_cons_succ, List.setIfInBounds_toArray, List.set_cons_zero, List.set_cons_succ]
      refine wpAnyH_take (i := 3) (oi := _) (v := ?veu4) rfl (by kernel_rfl) (by kernel_rfl) (by kernel_rfl) (fun _ _ _ h => h) (Or.inl ⟨by rfl, ?hyeu4⟩) hHeld ?resteu4
      case hyeu4 => (intro w hSw; (try dsimp only at hSw); go_simp; first | done | with_reducible rfl)
      try simp only [Act.put, List.getElem_toArray, List.getElem_cons_zero, List.getElem_cons_succ, List.setIfInBounds_toArray, List.set_cons_zero, List.set_cons_succ]
      refine wpAnyH_take (i := 4) (oi := _) (v := ?veu5) rfl (by kernel_rfl) (by kernel_rfl) (by kernel_rfl) (fun _ _ _ h => h) (Or.inl ⟨by rfl, ?hyeu5⟩) hHeld ?resteu5
      case hyeu5 => (intro w hSw; (try dsimp only at hSw); go_simp; first | done | with_reducible rfl)
      try simp only [Act.put, List.getElem_toArray, List.getElem_cons_zero, List.getElem_cons_succ, List.setIfInBounds_toArray, List.set_cons_zero, List.set_cons_succ]
      refine wpAnyH_take (i := 5) (oi := _) (v := ?veu6) rfl (by kernel_rfl) (by kernel_rfl) (by kernel_rfl) (fun _ _ _ h => h) (Or.inl ⟨by rfl, ?hyeu6⟩) hHeld ?resteu6
      case hyeu6 => (intro w hSw; (try dsimp only at hSw); go_simp; first | done | with_reducible rfl)
      try simp only [Act.put, List.getElem_toArray, List.getElem_cons_zero, List.getElem_cons_succ, List.setIfInBounds_toArray, List.set_cons_zero, List.set_cons_succ]
      refine wpAnyH_take (i := 6) (oi := _) (v := ?veu7) rfl (by kernel_rfl) (by kernel_rfl) (by kernel_rfl) (fun _ _ _ h => h) (Or.inl ⟨by rfl, ?hyeu7⟩) hHeld ?resteu7
      case hyeu7 => (intro w hSw; (try dsimp only at hSw); go_simp; first | done | with_reducible rfl)
      try simp only [Act.put, List.getElem_toArray, List.getElem_cons_zero, List.getElem_cons_succ, List.setIfInBounds_toArray, List.set_cons_zero, List.set_cons_succ]
      refine wpAnyH_take (i := 7) (oi := _) (v := ?veu8) rfl (by kernel_rfl) (by kernel_rfl) (by kernel_rfl) (fun _ _ _ h => h) (Or.inl ⟨by rfl, ?hyeu8⟩) hHeld ?resteu8
      case hyeu8 => (intro w hSw; (try dsimp only at hSw); go_simp; first | done | with_reducible rfl)
      try simp only [Act.put, List.getElem_toArray, List.getElem_cons_zero, List.getElem_cons_succ, List.setIfInBounds_toArray, List.set_cons_zero, List.set_cons_succ]
      refine wpAnyH_ready (rs := [8]) (by kernel_rfl) (by simp) ?_
      refine AllReadyH.cons (o := _) rfl (fun K0 hK0 => ?_) AllReadyH.nil
      go_simp
      go_at_call 122
      refine (eqSel_ok x _).mono ?_
      rintro e wev9 ⟨rfl, bev9⟩
      refine hK0.out _ _ (K.out _ (thenB (Below.refl _ _).drew bev9)) (fun hHeld => ?_)
      clear hK0 K0
      try simp only [Act.put, List.getElem_toArray, List.getElem_cons_zero, List.getElem_cons_succ, List.setIfInBounds_toArray, List.set_cons_zero, List.set_cons_succ]
      refine wpAnyH_take (i := 9) (oi := _) (v := ?veu10) rfl (by kernel_rfl) (by kernel_rfl) (by kernel_rfl) (fun _ _ _ h => h) (Or.inl ⟨by rfl, ?hyeu10⟩) hHeld ?resteu10
      case hyeu10 => (intro w hSw; (try dsimp only at hSw); go_simp; first | done | with_reducible rfl)
      try simp only [Act.put, List.getElem_toArray, List.getElem_cons_zero, List.getElem_cons_succ, List.setIfInBounds_toArray, List.set_cons_zero, List.set_cons_succ]
      refine wpAnyH_done (by kernel_rfl) ?_ _
      have BX := thenB hbel.out (thenB (Below.refl _ _).drew bev9)
      go_wp2
      go_roundw
      case rel => exact ⟨k + 1, by omega, by go_num, BX⟩
      case measure => simp [intOf]; omega
    · have hkn : k = n := by omega
      subst hkn
      go_wp2
      go_ret
      exact ⟨rfl, hbel⟩

end Go.Proofs.YtngkahchhioncaaDoor
