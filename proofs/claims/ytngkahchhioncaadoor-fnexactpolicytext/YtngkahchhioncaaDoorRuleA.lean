/- Slices of 'Rule': cells, reads, own rows (written by gentype.py). -/
import Derived.Test.YtngkahchhioncaaDoorSelA
import Derived.Test.YtngkahchhioncaaDoorNewC
import Derived.Deep.AppendLies
import Derived.Deep.MidRow
namespace Go.Proofs.YtngkahchhioncaaDoor
open Go.RowKit

/-- A rule: its selector, its action, its peer. -/
structure R11 where
  s : S9
  p : Int
  q : Int

/-- The cells of one. -/
def rowRule (x : R11) : List Value := [.int .i64 x.s.a, .int .i64 x.s.b, .int .i64 x.s.c, .int .i64 x.s.d, .int .i64 x.s.e, .int .i64 x.s.f, .int .i64 x.s.g, .int .i64 x.s.h, .int .i64 x.s.r, .int .i64 x.p, .int .i64 x.q]

/-- One of noughts. -/
def zRule : R11 := ⟨⟨0, 0, 0, 0, 0, 0, 0, 0, 0⟩, 0, 0⟩

/-- The cells, one behind the other. -/
def flatRule : List R11 → List Value
  | [] => []
  | x :: xs => rowRule x ++ flatRule xs

theorem rowRule_len (x : R11) : (rowRule x).length = 11 := rfl

theorem flatRule_len (xs : List R11) : (flatRule xs).length = xs.length * 11 := by
  induction xs with
  | nil => rfl
  | cons x xs ih => simp only [flatRule, List.length_append, rowRule_len, ih, List.length_cons]; omega

theorem flatRule_app (xs ys : List R11) : flatRule (xs ++ ys) = flatRule xs ++ flatRule ys := by
  induction xs with
  | nil => rfl
  | cons x xs ih => simp only [List.cons_append, flatRule, ih, List.append_assoc]

theorem flatRule_at (xs : List R11) (k j : Nat) (hk : k < xs.length) (hj : j < 11) : (flatRule xs)[k * 11 + j]? = (rowRule (xs.getD k zRule))[j]? := by
  induction xs generalizing k with
  | nil => simp at hk
  | cons x xs ih =>
    cases k with
    | zero =>
      simp only [flatRule, Nat.zero_mul, Nat.zero_add]
      rw [List.getElem?_append_left (by rw [rowRule_len]; exact hj)]
      simp [List.getD]
    | succ k =>
      simp only [flatRule]
      rw [List.getElem?_append_right (by rw [rowRule_len]; omega), rowRule_len, show (k + 1) * 11 + j - 11 = k * 11 + j by omega, ih k (by simpa using hk)]
      simp [List.getD]

/-- A slice at address 'a' reads as 'xs' in 'w'. -/
def RdRule (w : World) (a : Option Addr) (xs : List R11) : Prop :=
  xs = [] ∨ ∃ b off, a = some ⟨b, off, none⟩ ∧ ∀ i j, i < xs.length → j < 11 → w.cell? ⟨b, off + i * 11 + j, none⟩ = (rowRule (xs.getD i zRule))[j]?

/-- A slice that is the call's own. -/
def OwnRule (w : World) (base : Nat) (a : Option Addr) (cap : Nat) (xs : List R11) : Prop :=
  w.ownsRow base 34 11 (.slice a xs.length cap) xs.length (flatRule xs)

theorem RdRule.nil {w : World} {a : Option Addr} : RdRule w a [] := .inl rfl

theorem RdRule.kept {w w' : World} {a : Option Addr} {xs : List R11} (h : RdRule w a xs) (hb : Below w.heap.size w w') : RdRule w' a xs := by
  rcases h with h | ⟨b, off, rfl, hc⟩
  · exact .inl h
  · refine .inr ⟨b, off, rfl, fun i j hi hj => ?_⟩
    have h1 := hc i j hi hj
    obtain ⟨v, hv⟩ : ∃ v, (rowRule (xs.getD i zRule))[j]? = some v := ⟨_, List.getElem?_eq_getElem (by rw [rowRule_len]; exact hj)⟩
    rw [hv] at h1 ⊢
    exact (hb.cell (World.block_lt_of_cell? (a := ⟨b, off + i * 11 + j, none⟩) w h1)).trans h1

theorem OwnRule.rd {w : World} {base : Nat} {a : Option Addr} {cap : Nat} {xs : List R11} (h : OwnRule w base a cap xs) : RdRule w a xs := by
  rcases h.2 with ⟨_, h0⟩ | ⟨g, cap', cur, hv, _⟩
  · exact .inl (List.eq_nil_of_length_eq_zero h0)
  · simp only [Value.slice.injEq, true_and] at hv
    obtain ⟨rfl, rfl⟩ := hv
    refine .inr ⟨g, 0, rfl, fun i j hi hj => ?_⟩
    rw [Nat.zero_add, World.ownsRow.cellAt h (i * 11 + j) (by omega), flatRule_at xs i j hi hj]

theorem OwnRule.lt {w : World} {base : Nat} {a : Option Addr} {cap : Nat} {xs : List R11} (h : OwnRule w base a cap xs) : ∀ b, a = some b → base ≤ b.block ∧ b.block < w.heap.size := by
  intro b hb
  subst hb
  exact World.ownsRow.lt h b.block rfl

theorem OwnRule.grown {w w' : World} {base : Nat} {a : Option Addr} {cap : Nat} {xs : List R11} {row : Option Nat} (h : OwnRule w base a cap xs) (hg : w.grownBy w' row)
    (hne : ∀ b, a = some b → row ≠ some b.block) : OwnRule w' base a cap xs := by
  refine World.ownsRow.kept h hg ?_
  cases a with
  | none => exact .inl rfl
  | some b => exact .inr fun e => hne b rfl e.symm

theorem OwnRule.kept {w w' : World} {base : Nat} {a : Option Addr} {cap : Nat} {xs : List R11} (h : OwnRule w base a cap xs) (hb : Below w.heap.size w w') : OwnRule w' base a cap xs :=
  h.grown (Below.grownBy hb none) fun _ _ => by simp

theorem OwnRule.mono {w : World} {base base' : Nat} {a : Option Addr} {cap : Nat} {xs : List R11} (h : OwnRule w base a cap xs) (hb : base' ≤ base) : OwnRule w base' a cap xs := by
  obtain ⟨h1, h2⟩ := h
  refine ⟨h1, ?_⟩
  rcases h2 with h2 | ⟨g, cap', cur, hv, hg, r⟩
  · exact .inl h2
  · exact .inr ⟨g, cap', cur, hv, by omega, r⟩

theorem OwnRule.none {w : World} {base : Nat} : OwnRule w base none 0 [] := World.ownsRow_nil _ _ _ _

theorem OwnRule.below {w : World} {base : Nat} {a : Option Addr} {cap : Nat} {xs : List R11} (h : OwnRule w base a cap xs) {p : Addr} (hp : p.block < base) (u : Value) : OwnRule (w.setCell p u) base a cap xs :=
  h.grown ⟨rfl, rfl, rfl, by simp [World.setCell], fun k _ hk => Below.heap_setCell _ _ _ _ (fun e => hk (by rw [e]))⟩ fun b hb e => by
    have := (h.lt b hb).1
    simp only [Option.some.injEq] at e
    omega

theorem OwnRule.away {w : World} {base : Nat} {a : Option Addr} {cap : Nat} {xs : List R11} {p : Addr} (h : OwnRule w base a cap xs) (hp : ∀ b : Addr, a = some b → b.block ≠ p.block) (u : Value) : OwnRule (w.setCell p u) base a cap xs :=
  h.grown ⟨rfl, rfl, rfl, by simp [World.setCell], fun k _ hk => Below.heap_setCell _ _ _ _ (fun e => hk (by rw [e]))⟩ fun b hb e => by
    simp only [Option.some.injEq] at e
    exact hp b hb e.symm

theorem OwnRule.lit (w : World) (xs : List R11) (vs : List Value) (hv : vs = flatRule xs) (hm : xs.length ≤ maxLen) : OwnRule (w.alloc (.cells vs.toArray 34)) w.heap.size (some ⟨w.heap.size, 0, .none⟩) xs.length xs := by
  subst hv
  have h := World.ownsRow_lit (base := w.heap.size) (e := 34) (size := 11) w (flatRule xs).toArray xs.length (Nat.le_refl _) hm (by simp [flatRule_len])
  simpa [OwnRule] using h

theorem RdRule.cells {w : World} {b off : Nat} {xs : List R11} (hc : ∀ i j, i < xs.length → j < 11 → w.cell? ⟨b, off + i * 11 + j, none⟩ = (rowRule (xs.getD i zRule))[j]?) (k : Nat) (hk : k < xs.length) (x : R11) (hx : xs.getD k zRule = x) :
    w.cell? ⟨b, off + k * 11, none⟩ = some (.int .i64 x.s.a) ∧ w.cell? ⟨b, off + k * 11 + 1, none⟩ = some (.int .i64 x.s.b) ∧ w.cell? ⟨b, off + k * 11 + 2, none⟩ = some (.int .i64 x.s.c) ∧ w.cell? ⟨b, off + k * 11 + 3, none⟩ = some (.int .i64 x.s.d) ∧ w.cell? ⟨b, off + k * 11 + 4, none⟩ = some (.int .i64 x.s.e) ∧ w.cell? ⟨b, off + k * 11 + 5, none⟩ = some (.int .i64 x.s.f) ∧ w.cell? ⟨b, off + k * 11 + 6, none⟩ = some (.int .i64 x.s.g) ∧ w.cell? ⟨b, off + k * 11 + 7, none⟩ = some (.int .i64 x.s.h) ∧ w.cell? ⟨b, off + k * 11 + 8, none⟩ = some (.int .i64 x.s.r) ∧ w.cell? ⟨b, off + k * 11 + 9, none⟩ = some (.int .i64 x.p) ∧ w.cell? ⟨b, off + k * 11 + 10, none⟩ = some (.int .i64 x.q) := by
  subst hx
  exact ⟨hc k 0 hk (by decide), hc k 1 hk (by decide), hc k 2 hk (by decide), hc k 3 hk (by decide), hc k 4 hk (by decide), hc k 5 hk (by decide), hc k 6 hk (by decide), hc k 7 hk (by decide), hc k 8 hk (by decide), hc k 9 hk (by decide), hc k 10 hk (by decide)⟩

theorem RdRule.at {w : World} {b off : Nat} {xs : List R11} (h : RdRule w (some ⟨b, off, none⟩) xs) (k : Nat) (hk : k < xs.length) (x : R11) (hx : xs.getD k zRule = x) :
    w.cell? ⟨b, off + k * 11, none⟩ = some (.int .i64 x.s.a) ∧ w.cell? ⟨b, off + k * 11 + 1, none⟩ = some (.int .i64 x.s.b) ∧ w.cell? ⟨b, off + k * 11 + 2, none⟩ = some (.int .i64 x.s.c) ∧ w.cell? ⟨b, off + k * 11 + 3, none⟩ = some (.int .i64 x.s.d) ∧ w.cell? ⟨b, off + k * 11 + 4, none⟩ = some (.int .i64 x.s.e) ∧ w.cell? ⟨b, off + k * 11 + 5, none⟩ = some (.int .i64 x.s.f) ∧ w.cell? ⟨b, off + k * 11 + 6, none⟩ = some (.int .i64 x.s.g) ∧ w.cell? ⟨b, off + k * 11 + 7, none⟩ = some (.int .i64 x.s.h) ∧ w.cell? ⟨b, off + k * 11 + 8, none⟩ = some (.int .i64 x.s.r) ∧ w.cell? ⟨b, off + k * 11 + 9, none⟩ = some (.int .i64 x.p) ∧ w.cell? ⟨b, off + k * 11 + 10, none⟩ = some (.int .i64 x.q) := by
  rcases h with h | ⟨b', off', h, hc⟩
  · subst h; simp at hk
  · simp only [Option.some.injEq, Addr.mk.injEq, and_true] at h
    obtain ⟨rfl, rfl⟩ := h
    exact RdRule.cells hc k hk x hx

theorem RdRule.addr {w : World} {a : Option Addr} {xs : List R11} (h : RdRule w a xs) (hp : 0 < xs.length) : ∃ b off, a = some ⟨b, off, .none⟩ := by
  rcases h with h | ⟨b, off, rfl, _⟩
  · subst h; simp at hp
  · exact ⟨b, off, rfl⟩

theorem RdRule.grown {w w' : World} {a : Option Addr} {xs : List R11} {row : Option Nat} (h : RdRule w a xs) (hg : w.grownBy w' row) (hne : ∀ b : Addr, a = some b → row ≠ some b.block) : RdRule w' a xs := by
  rcases h with h | ⟨b, off, rfl, hc⟩
  · exact .inl h
  · refine .inr ⟨b, off, rfl, fun i j hi hj => ?_⟩
    have h1 := hc i j hi hj
    obtain ⟨v, hv⟩ : ∃ v, (rowRule (xs.getD i zRule))[j]? = some v := ⟨_, List.getElem?_eq_getElem (by rw [rowRule_len]; exact hj)⟩
    rw [hv] at h1 ⊢
    exact hg.cell h1 fun e => hne _ rfl e.symm

theorem RdRule.past {w : World} {a : Option Addr} {xs : List R11} {p : Addr} (h : RdRule w a xs) (hp : ∀ b : Addr, a = some b → b.block ≠ p.block) (v : Value) : RdRule (w.setCell p v) a xs :=
  h.grown (row := some p.block) ⟨rfl, rfl, rfl, by simp [World.setCell], fun k _ hk => Below.heap_setCell _ _ _ _ (fun e => hk (by rw [e]))⟩ fun b hb e => by
    simp only [Option.some.injEq] at e
    exact hp b hb e.symm

theorem getDRule_mem {xs : List R11} {k : Nat} (h : k < xs.length) : xs.getD k zRule ∈ xs := by
  rw [show xs.getD k zRule = xs[k] by simp [List.getD, h]]; exact List.getElem_mem _

theorem takeRule (xs : List R11) (k : Nat) (h : k < xs.length) : xs.take (k + 1) = xs.take k ++ [xs.getD k zRule] := by
  rw [List.take_add_one]
  simp [List.getD, h]

theorem dropRule (xs : List R11) (k : Nat) (h : k < xs.length) : xs.drop k = xs.getD k zRule :: xs.drop (k + 1) := by
  rw [List.drop_eq_getElem_cons h]; simp [List.getD, h]

/-- The cells of one are set. -/
def setRule (L : List Value) (p : Nat) (x : R11) : List Value := (((((((((((L.set (p) (.int .i64 x.s.a)).set (p + 1) (.int .i64 x.s.b)).set (p + 2) (.int .i64 x.s.c)).set (p + 3) (.int .i64 x.s.d)).set (p + 4) (.int .i64 x.s.e)).set (p + 5) (.int .i64 x.s.f)).set (p + 6) (.int .i64 x.s.g)).set (p + 7) (.int .i64 x.s.h)).set (p + 8) (.int .i64 x.s.r)).set (p + 9) (.int .i64 x.p)).set (p + 10) (.int .i64 x.q))

theorem setRule_right (A L : List Value) (p : Nat) (x : R11) (h : A.length ≤ p) : setRule (A ++ L) p x = A ++ setRule L (p - A.length) x := by
  unfold setRule
  rw [List.set_append_right _ _ h]
  rw [List.set_append_right _ _ (by omega), show p + 1 - A.length = p - A.length + 1 by omega]
  rw [List.set_append_right _ _ (by omega), show p + 2 - A.length = p - A.length + 2 by omega]
  rw [List.set_append_right _ _ (by omega), show p + 3 - A.length = p - A.length + 3 by omega]
  rw [List.set_append_right _ _ (by omega), show p + 4 - A.length = p - A.length + 4 by omega]
  rw [List.set_append_right _ _ (by omega), show p + 5 - A.length = p - A.length + 5 by omega]
  rw [List.set_append_right _ _ (by omega), show p + 6 - A.length = p - A.length + 6 by omega]
  rw [List.set_append_right _ _ (by omega), show p + 7 - A.length = p - A.length + 7 by omega]
  rw [List.set_append_right _ _ (by omega), show p + 8 - A.length = p - A.length + 8 by omega]
  rw [List.set_append_right _ _ (by omega), show p + 9 - A.length = p - A.length + 9 by omega]
  rw [List.set_append_right _ _ (by omega), show p + 10 - A.length = p - A.length + 10 by omega]

theorem setRule_zero (y x : R11) (L : List Value) : setRule (rowRule y ++ L) 0 x = rowRule x ++ L := rfl

theorem setRule_flat (l : List R11) (k : Nat) (x : R11) (h : k < l.length) : setRule (flatRule l) (k * 11) x = flatRule (l.set k x) := by
  induction l generalizing k with
  | nil => simp at h
  | cons y l ih =>
    cases k with
    | zero => rw [Nat.zero_mul]; exact setRule_zero y x (flatRule l)
    | succ k =>
      simp only [flatRule, List.set_cons_succ]
      rw [setRule_right _ _ _ _ (by rw [rowRule_len]; omega), rowRule_len, show (k + 1) * 11 - 11 = k * 11 by omega, ih k (by simpa using h)]

theorem storedRule {w : World} {base g cap n : Nat} {e : TypeId} {L : List Value} (h : w.ownsRow base e 11 (.slice (some ⟨g, 0, none⟩) n cap) n L) (k : Nat) (x : R11) :
    (((((((((((w.setCell ⟨g, k * 11, none⟩ (.int .i64 x.s.a)).setCell ⟨g, k * 11 + 1, none⟩ (.int .i64 x.s.b)).setCell ⟨g, k * 11 + 2, none⟩ (.int .i64 x.s.c)).setCell ⟨g, k * 11 + 3, none⟩ (.int .i64 x.s.d)).setCell ⟨g, k * 11 + 4, none⟩ (.int .i64 x.s.e)).setCell ⟨g, k * 11 + 5, none⟩ (.int .i64 x.s.f)).setCell ⟨g, k * 11 + 6, none⟩ (.int .i64 x.s.g)).setCell ⟨g, k * 11 + 7, none⟩ (.int .i64 x.s.h)).setCell ⟨g, k * 11 + 8, none⟩ (.int .i64 x.s.r)).setCell ⟨g, k * 11 + 9, none⟩ (.int .i64 x.p)).setCell ⟨g, k * 11 + 10, none⟩ (.int .i64 x.q)).ownsRow base e 11 (.slice (some ⟨g, 0, none⟩) n cap) n (setRule L (k * 11) x) := by
  have h0 := (h.stored (k * 11) (.int .i64 x.s.a)).1
  have h1 := (h0.stored (k * 11 + 1) (.int .i64 x.s.b)).1
  have h2 := (h1.stored (k * 11 + 2) (.int .i64 x.s.c)).1
  have h3 := (h2.stored (k * 11 + 3) (.int .i64 x.s.d)).1
  have h4 := (h3.stored (k * 11 + 4) (.int .i64 x.s.e)).1
  have h5 := (h4.stored (k * 11 + 5) (.int .i64 x.s.f)).1
  have h6 := (h5.stored (k * 11 + 6) (.int .i64 x.s.g)).1
  have h7 := (h6.stored (k * 11 + 7) (.int .i64 x.s.h)).1
  have h8 := (h7.stored (k * 11 + 8) (.int .i64 x.s.r)).1
  have h9 := (h8.stored (k * 11 + 9) (.int .i64 x.p)).1
  have h10 := (h9.stored (k * 11 + 10) (.int .i64 x.q)).1
  exact h10

/-- A row of which the first 'k' are written. -/
def fillRule (xs : List R11) (k n : Nat) : List R11 := xs.take k ++ List.replicate (n - k) zRule

theorem fillRule_zero (xs : List R11) (n : Nat) : fillRule xs 0 n = List.replicate n zRule := by simp [fillRule]

theorem fillRule_all (xs : List R11) (n : Nat) (h : xs.length = n) : fillRule xs n n = xs := by simp [fillRule, ← h]

theorem fillRule_len (xs : List R11) (k n : Nat) (h : xs.length = n) (hk : k ≤ n) : (fillRule xs k n).length = n := by
  simp [fillRule]; omega

theorem fillRule_set (xs : List R11) (k n : Nat) (h : xs.length = n) (hk : k < n) : (fillRule xs k n).set k (xs.getD k zRule) = fillRule xs (k + 1) n := by
  unfold fillRule
  rw [takeRule xs k (by omega), List.set_append_right _ _ (by simp; omega)]
  have hlen : (xs.take k).length = k := by simp; omega
  rw [hlen, Nat.sub_self]
  obtain ⟨m, hm⟩ : ∃ m, n - k = m + 1 := ⟨n - k - 1, by omega⟩
  rw [hm, show n - (k + 1) = m from by omega]
  simp [List.replicate_succ]

theorem fillRule_at (xs : List R11) (k n : Nat) (h : xs.length = n) (hk : k < n) : (fillRule xs k n).getD k zRule = zRule := by
  unfold fillRule
  have hlen : (xs.take k).length = k := by simp; omega
  rw [List.getD, List.getElem?_append_right (by omega), hlen, Nat.sub_self]
  obtain ⟨m, hm⟩ : ∃ m, n - k = m + 1 := ⟨n - k - 1, by omega⟩
  rw [hm]; rfl

theorem zerosRule (n : Nat) : flatRule (List.replicate n zRule) = List.replicate (n * 11) (.int .i64 0) := by
  induction n with
  | zero => rfl
  | succ n ih =>
    rw [List.replicate_succ, flatRule, ih, show (n + 1) * 11 = 11 + n * 11 by omega, ← List.replicate_append_replicate]
    rfl

theorem madeRule (n : Nat) : (madeCells #[.int .i64 0, .int .i64 0, .int .i64 0, .int .i64 0, .int .i64 0, .int .i64 0, .int .i64 0, .int .i64 0, .int .i64 0, .int .i64 0, .int .i64 0] n).toList = List.replicate n (.int .i64 0) := by
  rw [List.eq_replicate_iff]
  refine ⟨by simp [madeCells], fun v hv => ?_⟩
  simp only [madeCells, Array.toList_map, List.mem_map] at hv
  obtain ⟨i, _, rfl⟩ := hv
  have hi : i % 11 < 11 := Nat.mod_lt _ (by decide)
  show (#[.int .i64 0, .int .i64 0, .int .i64 0, .int .i64 0, .int .i64 0, .int .i64 0, .int .i64 0, .int .i64 0, .int .i64 0, .int .i64 0, .int .i64 0] : Array Value)[i % 11]! = _
  generalize i % 11 = j at *
  match j, hi with
  | 0, _ => rfl
  | 1, _ => rfl
  | 2, _ => rfl
  | 3, _ => rfl
  | 4, _ => rfl
  | 5, _ => rfl
  | 6, _ => rfl
  | 7, _ => rfl
  | 8, _ => rfl
  | 9, _ => rfl
  | 10, _ => rfl

theorem Tryd.infoRule : (Tryd.prog.info? 34).map (fun i => (i.zero, i.size, i.bytes)) = some (some (.agg #[.int .i64 0, .int .i64 0, .int .i64 0, .int .i64 0, .int .i64 0, .int .i64 0, .int .i64 0, .int .i64 0, .int .i64 0, .int .i64 0, .int .i64 0]), 11, 88) := by kernel_rfl

/-- One is put behind the others of a row of one's own. -/
theorem wpList_putRule {ops : Array Oper} {rest : List Oper} {o : Oper} {a : Act} {Q : Exit → Act → World → Prop} (w : World) (hgd : o.guard = none) (s x : Operand)
    (ho : o.op = .call { callee := .builtin .append, args := #[s, x], argTypes := #[24, 24] })
    (base : Nat) (c : Option Addr) (d : Nat) (xs : List R11) (n : Nat) (hn : xs.length = n) (hs : a.eval s = .slice c n d) (hown : OwnRule w base c d xs)
    (ad : Addr) (cc : Nat) (p : R11) (hx : a.eval x = .slice (some ad) 1 cc) (hp : ∀ j u, (rowRule p)[j]? = some u → w.cell? (ad.add j) = some u)
    (hlen : n ≤ 1000000) (hbase : base ≤ w.heap.size)
    (h : ∀ c' d' w', OwnRule w' base c' d' (xs ++ [p]) → w.grownBy w' (c.map Addr.block) → Hid (∃ g, c' = some ⟨g, 0, none⟩ ∧ ((∃ a, c = some a ∧ a.block = g) ∨ g = w.heap.size) ∧ g < w'.heap.size) → wpList Tryd.prog ops Q rest (a.put o.dst (.slice c' (n + 1) d')) w') : wpList Tryd.prog ops Q (o :: rest) a w := by
  subst hn
  obtain ⟨i, hi, hz, hsz, hby⟩ : ∃ i, Tryd.prog.info? 34 = some i ∧ i.zero = some (.agg #[.int .i64 0, .int .i64 0, .int .i64 0, .int .i64 0, .int .i64 0, .int .i64 0, .int .i64 0, .int .i64 0, .int .i64 0, .int .i64 0, .int .i64 0]) ∧ i.size = 11 ∧ i.bytes = 88 := by
    have h := Tryd.infoRule
    cases he : Tryd.prog.info? 34 with
    | none => rw [he] at h; cases h
    | some i =>
      rw [he] at h
      simp only [Option.map_some, Option.some.injEq, Prod.mk.injEq] at h
      exact ⟨i, rfl, h.1, h.2.1, h.2.2⟩
  refine wpList_append_lies w hgd s x 24 ho base 34 i _ 11 88 Tryd.underlying24 hi hz hsz hby (by rfl) (by decide) (.slice c xs.length d) xs.length (flatRule xs) hs hown ad 1 cc (rowRule p) hx rfl hp ?_ (by decide) (by unfold maxLen; omega) (by omega) hbase _ rfl ?_
  · intro u hu
    simp only [rowRule, List.mem_cons, List.not_mem_nil, or_false] at hu
    rcases hu with rfl | rfl | rfl | rfl | rfl | rfl | rfl | rfl | rfl | rfl | rfl <;> rfl
  · intro g cap w' h1 h2 h3 h4
    have e1 : (xs ++ [p]).length = xs.length + 1 := by simp
    have e2 : flatRule xs ++ rowRule p = flatRule (xs ++ [p]) := by rw [flatRule_app]; simp [flatRule]
    have h2' : w.grownBy w' (c.map Addr.block) := by cases c <;> exact h2
    refine h _ _ w' ?_ h2' (Hid.mk ⟨g, rfl, ?_, h4⟩)
    · unfold OwnRule; rw [e1, ← e2]; exact h1
    · rcases h3 with h3 | h3
      · left; cases c with
        | none => cases h3
        | some b => exact ⟨b, rfl, by simpa [Value.ownBlock] using h3⟩
      · exact .inr h3

/-- One of marks. -/
def mRule (p : Int) : R11 := ⟨⟨p, p + 1, p + 1 + 1, p + 1 + 1 + 1, p + 1 + 1 + 1 + 1, p + 1 + 1 + 1 + 1 + 1, p + 1 + 1 + 1 + 1 + 1 + 1, p + 1 + 1 + 1 + 1 + 1 + 1 + 1, p + 1 + 1 + 1 + 1 + 1 + 1 + 1 + 1⟩, p + 1 + 1 + 1 + 1 + 1 + 1 + 1 + 1 + 1, p + 1 + 1 + 1 + 1 + 1 + 1 + 1 + 1 + 1 + 1⟩

/-- Some of marks. -/
def marksRule (q : Int) (n : Nat) : List R11 := (List.range n).map fun (i : Nat) => mRule (q + 11 * (i : Int))

theorem marksRule_len (q : Int) (n : Nat) : (marksRule q n).length = n := by simp [marksRule]

theorem marksRule_at (q : Int) (n k : Nat) (h : k < n) : (marksRule q n).getD k zRule = mRule (q + 11 * (k : Int)) := by
  simp [marksRule, List.getD, h]

/-- A row of which the first 'k' are marked. -/
def mfillRule (q : Int) (k : Nat) (xs : List R11) : List R11 := marksRule q k ++ xs.drop k

theorem mfillRule_zero (q : Int) (xs : List R11) : mfillRule q 0 xs = xs := by simp [mfillRule, marksRule]

theorem mfillRule_all (q : Int) (xs : List R11) (n : Nat) (h : xs.length = n) : mfillRule q n xs = marksRule q n := by simp [mfillRule, ← h]

theorem mfillRule_len (q : Int) (k : Nat) (xs : List R11) (n : Nat) (h : xs.length = n) (hk : k ≤ n) : (mfillRule q k xs).length = n := by
  simp [mfillRule, marksRule_len]; omega

theorem mfillRule_set (q : Int) (k : Nat) (xs : List R11) (h : k < xs.length) : (mfillRule q k xs).set k (mRule (q + 11 * (k : Int))) = mfillRule q (k + 1) xs := by
  unfold mfillRule
  rw [List.set_append_right _ _ (by rw [marksRule_len]; exact Nat.le_refl _), marksRule_len, Nat.sub_self, dropRule xs k h, List.set_cons_zero]
  simp [marksRule, List.range_succ]

theorem mfillRule_at (q : Int) (k : Nat) (xs : List R11) : (mfillRule q k xs).getD k zRule = xs.getD k zRule := by
  unfold mfillRule
  simp only [List.getD]
  rw [List.getElem?_append_right (by rw [marksRule_len]; exact Nat.le_refl _), marksRule_len, Nat.sub_self, List.getElem?_drop, Nat.add_zero]


/-- One cell of one is another number. -/
def updRule (x : R11) (j : Nat) (v : Int) : R11 :=
  match j with
  | 0 => ⟨⟨v, x.s.b, x.s.c, x.s.d, x.s.e, x.s.f, x.s.g, x.s.h, x.s.r⟩, x.p, x.q⟩
  | 1 => ⟨⟨x.s.a, v, x.s.c, x.s.d, x.s.e, x.s.f, x.s.g, x.s.h, x.s.r⟩, x.p, x.q⟩
  | 2 => ⟨⟨x.s.a, x.s.b, v, x.s.d, x.s.e, x.s.f, x.s.g, x.s.h, x.s.r⟩, x.p, x.q⟩
  | 3 => ⟨⟨x.s.a, x.s.b, x.s.c, v, x.s.e, x.s.f, x.s.g, x.s.h, x.s.r⟩, x.p, x.q⟩
  | 4 => ⟨⟨x.s.a, x.s.b, x.s.c, x.s.d, v, x.s.f, x.s.g, x.s.h, x.s.r⟩, x.p, x.q⟩
  | 5 => ⟨⟨x.s.a, x.s.b, x.s.c, x.s.d, x.s.e, v, x.s.g, x.s.h, x.s.r⟩, x.p, x.q⟩
  | 6 => ⟨⟨x.s.a, x.s.b, x.s.c, x.s.d, x.s.e, x.s.f, v, x.s.h, x.s.r⟩, x.p, x.q⟩
  | 7 => ⟨⟨x.s.a, x.s.b, x.s.c, x.s.d, x.s.e, x.s.f, x.s.g, v, x.s.r⟩, x.p, x.q⟩
  | 8 => ⟨⟨x.s.a, x.s.b, x.s.c, x.s.d, x.s.e, x.s.f, x.s.g, x.s.h, v⟩, x.p, x.q⟩
  | 9 => ⟨⟨x.s.a, x.s.b, x.s.c, x.s.d, x.s.e, x.s.f, x.s.g, x.s.h, x.s.r⟩, v, x.q⟩
  | 10 => ⟨⟨x.s.a, x.s.b, x.s.c, x.s.d, x.s.e, x.s.f, x.s.g, x.s.h, x.s.r⟩, x.p, v⟩
  | _ => x

theorem updRule_row (x : R11) (j : Nat) (v : Int) (h : j < 11) : rowRule (updRule x j v) = (rowRule x).set j (.int .i64 v) := by
  match j, h with
  | 0, _ => rfl
  | 1, _ => rfl
  | 2, _ => rfl
  | 3, _ => rfl
  | 4, _ => rfl
  | 5, _ => rfl
  | 6, _ => rfl
  | 7, _ => rfl
  | 8, _ => rfl
  | 9, _ => rfl
  | 10, _ => rfl

theorem flatRule_set (xs : List R11) (k j : Nat) (hk : k < xs.length) (hj : j < 11) (v : Int) : (flatRule xs).set (k * 11 + j) (.int .i64 v) = flatRule (xs.set k (updRule (xs.getD k zRule) j v)) := by
  induction xs generalizing k with
  | nil => simp at hk
  | cons x xs ih =>
    cases k with
    | zero =>
      have e : (x :: xs).getD 0 zRule = x := rfl
      rw [e, List.set_cons_zero, Nat.zero_mul, Nat.zero_add]
      simp only [flatRule]
      rw [List.set_append_left _ _ (by rw [rowRule_len]; exact hj), updRule_row x j v hj]
    | succ k =>
      have e : (x :: xs).getD (k + 1) zRule = xs.getD k zRule := rfl
      rw [e, List.set_cons_succ]
      simp only [flatRule]
      rw [List.set_append_right _ _ (by rw [rowRule_len]; omega), rowRule_len, show (k + 1) * 11 + j - 11 = k * 11 + j by omega, ih k (by simpa using hk)]

/-- One cell of a row of one's own is written. -/
theorem OwnRule.poke {w : World} {base g : Nat} {cap : Nat} {xs : List R11} (h : OwnRule w base (some ⟨g, 0, .none⟩) cap xs) (k j : Nat) (hk : k < xs.length) (hj : j < 11) (v : Int) :
    OwnRule (w.setCell ⟨g, k * 11 + j, .none⟩ (.int .i64 v)) base (some ⟨g, 0, .none⟩) cap (xs.set k (updRule (xs.getD k zRule) j v)) := by
  unfold OwnRule at *
  rw [List.length_set, ← flatRule_set xs k j hk hj v]
  exact (World.ownsRow.stored h (k * 11 + j) (.int .i64 v)).1

theorem RdRule.flat {w : World} {b off : Nat} {xs : List R11} (h : RdRule w (some ⟨b, off, .none⟩) xs) : ∀ j u, (flatRule xs)[j]? = some u → w.cell? ⟨b, off + j, .none⟩ = some u := by
  intro j u hu
  have hj : j < xs.length * 11 := by
    have := (List.getElem?_eq_some_iff.1 hu).1
    rwa [flatRule_len] at this
  rcases h with h | ⟨b', off', h, hc⟩
  · subst h; simp at hj
  · simp only [Option.some.injEq, Addr.mk.injEq, and_true] at h
    obtain ⟨rfl, rfl⟩ := h
    have h1 : j / 11 < xs.length := by omega
    have h2 : j % 11 < 11 := Nat.mod_lt _ (by decide)
    have h3 := hc (j / 11) (j % 11) h1 h2
    rw [← flatRule_at xs (j / 11) (j % 11) h1 h2, show j / 11 * 11 + j % 11 = j by omega, hu] at h3
    rw [← h3]
    congr 2
    omega

theorem flatRule_one (xs : List R11) : ∀ u ∈ flatRule xs, u.oneCell' = true := by
  induction xs with
  | nil => intro u hu; cases hu
  | cons x xs ih =>
    intro u hu
    simp only [flatRule, List.mem_append] at hu
    rcases hu with hu | hu
    · simp only [rowRule, List.mem_cons, List.not_mem_nil, or_false] at hu
      rcases hu with rfl | rfl | rfl | rfl | rfl | rfl | rfl | rfl | rfl | rfl | rfl <;> rfl
    · exact ih u hu

/-- All of a slice that is read are put behind the others of a row of one's own. -/
theorem wpList_putsRule {ops : Array Oper} {rest : List Oper} {o : Oper} {a : Act} {Q : Exit → Act → World → Prop} (w : World) (hgd : o.guard = none) (s x : Operand)
    (ho : o.op = .call { callee := .builtin .append, args := #[s, x], argTypes := #[24, 24] })
    (base : Nat) (c : Option Addr) (d : Nat) (xs : List R11) (n : Nat) (hn : xs.length = n) (hs : a.eval s = .slice c n d) (hown : OwnRule w base c d xs)
    (b off m cc : Nat) (ys : List R11) (hx : a.eval x = .slice (some ⟨b, off, .none⟩) m cc) (hr : RdRule w (some ⟨b, off, .none⟩) ys) (hm : ys.length = m) (hm0 : 0 < m)
    (hlen : n + m ≤ 1000000) (hbase : base ≤ w.heap.size)
    (h : ∀ c' d' w', OwnRule w' base c' d' (xs ++ ys) → w.grownBy w' (c.map Addr.block) → Hid (∃ g, c' = some ⟨g, 0, .none⟩ ∧ ((∃ a, c = some a ∧ a.block = g) ∨ g = w.heap.size) ∧ g < w'.heap.size) → wpList Tryd.prog ops Q rest (a.put o.dst (.slice c' (n + m) d')) w') : wpList Tryd.prog ops Q (o :: rest) a w := by
  subst hn
  subst hm
  obtain ⟨i, hi, hz, hsz, hby⟩ : ∃ i, Tryd.prog.info? 34 = some i ∧ i.zero = some (.agg #[.int .i64 0, .int .i64 0, .int .i64 0, .int .i64 0, .int .i64 0, .int .i64 0, .int .i64 0, .int .i64 0, .int .i64 0, .int .i64 0, .int .i64 0]) ∧ i.size = 11 ∧ i.bytes = 88 := by
    have h := Tryd.infoRule
    cases he : Tryd.prog.info? 34 with
    | none => rw [he] at h; cases h
    | some i =>
      rw [he] at h
      simp only [Option.map_some, Option.some.injEq, Prod.mk.injEq] at h
      exact ⟨i, rfl, h.1, h.2.1, h.2.2⟩
  refine wpList_append_lies w hgd s x 24 ho base 34 i _ 11 88 Tryd.underlying24 hi hz hsz hby (by rfl) (by decide) (.slice c xs.length d) xs.length (flatRule xs) hs hown ⟨b, off, .none⟩ ys.length cc (flatRule ys) hx (flatRule_len ys) (fun j u hu => ?_) (flatRule_one ys) hm0 (by unfold maxLen; omega) (by omega) hbase _ rfl ?_
  · have h1 := hr.flat j u hu
    rw [Addr.add_mid]; exact h1
  · intro g cap w' h1 h2 h3 h4
    have e1 : (xs ++ ys).length = xs.length + ys.length := by simp
    have h2' : w.grownBy w' (c.map Addr.block) := by cases c <;> exact h2
    refine h _ _ w' ?_ h2' (Hid.mk ⟨g, rfl, ?_, h4⟩)
    · unfold OwnRule; rw [e1, flatRule_app]; exact h1
    · rcases h3 with h3 | h3
      · left; cases c with
        | none => cases h3
        | some b => exact ⟨b, rfl, by simpa [Value.ownBlock] using h3⟩
      · exact .inr h3

theorem OwnRule.there {w : World} {base g : Nat} {cap : Nat} {xs : List R11} (h : OwnRule w base (some ⟨g, 0, .none⟩) cap xs) (k : Nat) (hk : k < xs.length) : w.there g (k * 11) 11 := fun j hj => by
  refine ⟨?_, World.ownsRow.frozenAt h _⟩
  rw [World.ownsRow.cellAt h (k * 11 + j) (by omega), flatRule_at xs k j hk hj, List.getElem?_eq_getElem (by rw [rowRule_len]; exact hj)]; rfl

/-- One of a row of one's own is written whole, at one stroke. -/
theorem OwnRule.stroke {w : World} {base g : Nat} {cap : Nat} {xs : List R11} (h : OwnRule w base (some ⟨g, 0, .none⟩) cap xs) (k : Nat) (hk : k < xs.length) (y : R11) : OwnRule (w.setCells g (k * 11) (rowRule y)) base (some ⟨g, 0, .none⟩) cap (xs.set k y) := by
  have h1 := storedRule h k y
  rw [setRule_flat xs k y hk] at h1
  unfold OwnRule
  rw [List.length_set]
  simpa only [rowRule, World.setCells, Nat.add_assoc, Nat.reduceAdd] using h1

/-- Another box is filled. -/
theorem OwnRule.apart {w : World} {base : Nat} {a : Option Addr} {cap : Nat} {xs : List R11} {B : Nat} (h : OwnRule w base a cap xs) (hB : ∀ b : Addr, a = some b → b.block ≠ B) (o : Nat) (vs : List Value) : OwnRule (w.setCells B o vs) base a cap xs := by
  induction vs generalizing w o with
  | nil => exact h
  | cons v vs ih => exact ih (w := w.setCell ⟨B, o, .none⟩ v) (h.away (p := ⟨B, o, .none⟩) hB v) (o + 1)

end Go.Proofs.YtngkahchhioncaaDoor
