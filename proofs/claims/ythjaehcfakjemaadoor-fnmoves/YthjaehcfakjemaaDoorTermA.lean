/- Slices of 'Term': cells, reads, own rows (written by gentype.py). -/
import Derived.Test.YthjaehcfakjemaaDoorPkt
import Derived.Test.YthjaehcfakjemaaDoorNewC
import Derived.Deep.AppendLies
import Derived.Deep.MidRow
namespace Go.Proofs.YthjaehcfakjemaaDoor
open Go.RowKit

/-- A term: its Op, the places that it names, its number. -/
structure T4 where
  o : Int
  a : Int
  b : Int
  n : Int
deriving DecidableEq

/-- The cells of one. -/
def rowTerm (x : T4) : List Value := [.int .i64 x.o, .int .i64 x.a, .int .i64 x.b, .int .i64 x.n]

/-- One of noughts. -/
def zTerm : T4 := ⟨0, 0, 0, 0⟩

/-- The cells, one behind the other. -/
def flatTerm : List T4 → List Value
  | [] => []
  | x :: xs => rowTerm x ++ flatTerm xs

theorem rowTerm_len (x : T4) : (rowTerm x).length = 4 := rfl

theorem flatTerm_len (xs : List T4) : (flatTerm xs).length = xs.length * 4 := by
  induction xs with
  | nil => rfl
  | cons x xs ih => simp only [flatTerm, List.length_append, rowTerm_len, ih, List.length_cons]; omega

theorem flatTerm_app (xs ys : List T4) : flatTerm (xs ++ ys) = flatTerm xs ++ flatTerm ys := by
  induction xs with
  | nil => rfl
  | cons x xs ih => simp only [List.cons_append, flatTerm, ih, List.append_assoc]

theorem flatTerm_at (xs : List T4) (k j : Nat) (hk : k < xs.length) (hj : j < 4) : (flatTerm xs)[k * 4 + j]? = (rowTerm (xs.getD k zTerm))[j]? := by
  induction xs generalizing k with
  | nil => simp at hk
  | cons x xs ih =>
    cases k with
    | zero =>
      simp only [flatTerm, Nat.zero_mul, Nat.zero_add]
      rw [List.getElem?_append_left (by rw [rowTerm_len]; exact hj)]
      simp [List.getD]
    | succ k =>
      simp only [flatTerm]
      rw [List.getElem?_append_right (by rw [rowTerm_len]; omega), rowTerm_len, show (k + 1) * 4 + j - 4 = k * 4 + j by omega, ih k (by simpa using hk)]
      simp [List.getD]

/-- A slice at address 'a' reads as 'xs' in 'w'. -/
def RdTerm (w : World) (a : Option Addr) (xs : List T4) : Prop :=
  xs = [] ∨ ∃ b off, a = some ⟨b, off, none⟩ ∧ ∀ i j, i < xs.length → j < 4 → w.cell? ⟨b, off + i * 4 + j, none⟩ = (rowTerm (xs.getD i zTerm))[j]?

/-- A slice that is the call's own. -/
def OwnTerm (w : World) (base : Nat) (a : Option Addr) (cap : Nat) (xs : List T4) : Prop :=
  w.ownsRow base 70 4 (.slice a xs.length cap) xs.length (flatTerm xs)

theorem RdTerm.nil {w : World} {a : Option Addr} : RdTerm w a [] := .inl rfl

theorem RdTerm.kept {w w' : World} {a : Option Addr} {xs : List T4} (h : RdTerm w a xs) (hb : Below w.heap.size w w') : RdTerm w' a xs := by
  rcases h with h | ⟨b, off, rfl, hc⟩
  · exact .inl h
  · refine .inr ⟨b, off, rfl, fun i j hi hj => ?_⟩
    have h1 := hc i j hi hj
    obtain ⟨v, hv⟩ : ∃ v, (rowTerm (xs.getD i zTerm))[j]? = some v := ⟨_, List.getElem?_eq_getElem (by rw [rowTerm_len]; exact hj)⟩
    rw [hv] at h1 ⊢
    exact (hb.cell (World.block_lt_of_cell? (a := ⟨b, off + i * 4 + j, none⟩) w h1)).trans h1

theorem OwnTerm.rd {w : World} {base : Nat} {a : Option Addr} {cap : Nat} {xs : List T4} (h : OwnTerm w base a cap xs) : RdTerm w a xs := by
  rcases h.2 with ⟨_, h0⟩ | ⟨g, cap', cur, hv, _⟩
  · exact .inl (List.eq_nil_of_length_eq_zero h0)
  · simp only [Value.slice.injEq, true_and] at hv
    obtain ⟨rfl, rfl⟩ := hv
    refine .inr ⟨g, 0, rfl, fun i j hi hj => ?_⟩
    rw [Nat.zero_add, World.ownsRow.cellAt h (i * 4 + j) (by omega), flatTerm_at xs i j hi hj]

theorem OwnTerm.lt {w : World} {base : Nat} {a : Option Addr} {cap : Nat} {xs : List T4} (h : OwnTerm w base a cap xs) : ∀ b, a = some b → base ≤ b.block ∧ b.block < w.heap.size := by
  intro b hb
  subst hb
  exact World.ownsRow.lt h b.block rfl

theorem OwnTerm.grown {w w' : World} {base : Nat} {a : Option Addr} {cap : Nat} {xs : List T4} {row : Option Nat} (h : OwnTerm w base a cap xs) (hg : w.grownBy w' row)
    (hne : ∀ b, a = some b → row ≠ some b.block) : OwnTerm w' base a cap xs := by
  refine World.ownsRow.kept h hg ?_
  cases a with
  | none => exact .inl rfl
  | some b => exact .inr fun e => hne b rfl e.symm

theorem OwnTerm.kept {w w' : World} {base : Nat} {a : Option Addr} {cap : Nat} {xs : List T4} (h : OwnTerm w base a cap xs) (hb : Below w.heap.size w w') : OwnTerm w' base a cap xs :=
  h.grown (Below.grownBy hb none) fun _ _ => by simp

theorem OwnTerm.mono {w : World} {base base' : Nat} {a : Option Addr} {cap : Nat} {xs : List T4} (h : OwnTerm w base a cap xs) (hb : base' ≤ base) : OwnTerm w base' a cap xs := by
  obtain ⟨h1, h2⟩ := h
  refine ⟨h1, ?_⟩
  rcases h2 with h2 | ⟨g, cap', cur, hv, hg, r⟩
  · exact .inl h2
  · exact .inr ⟨g, cap', cur, hv, by omega, r⟩

theorem OwnTerm.none {w : World} {base : Nat} : OwnTerm w base none 0 [] := World.ownsRow_nil _ _ _ _

theorem OwnTerm.below {w : World} {base : Nat} {a : Option Addr} {cap : Nat} {xs : List T4} (h : OwnTerm w base a cap xs) {p : Addr} (hp : p.block < base) (u : Value) : OwnTerm (w.setCell p u) base a cap xs :=
  h.grown ⟨rfl, rfl, rfl, by simp [World.setCell], fun k _ hk => Below.heap_setCell _ _ _ _ (fun e => hk (by rw [e]))⟩ fun b hb e => by
    have := (h.lt b hb).1
    simp only [Option.some.injEq] at e
    omega

theorem OwnTerm.away {w : World} {base : Nat} {a : Option Addr} {cap : Nat} {xs : List T4} {p : Addr} (h : OwnTerm w base a cap xs) (hp : ∀ b : Addr, a = some b → b.block ≠ p.block) (u : Value) : OwnTerm (w.setCell p u) base a cap xs :=
  h.grown ⟨rfl, rfl, rfl, by simp [World.setCell], fun k _ hk => Below.heap_setCell _ _ _ _ (fun e => hk (by rw [e]))⟩ fun b hb e => by
    simp only [Option.some.injEq] at e
    exact hp b hb e.symm

theorem OwnTerm.lit (w : World) (xs : List T4) (vs : List Value) (hv : vs = flatTerm xs) (hm : xs.length ≤ maxLen) : OwnTerm (w.alloc (.cells vs.toArray 70)) w.heap.size (some ⟨w.heap.size, 0, .none⟩) xs.length xs := by
  subst hv
  have h := World.ownsRow_lit (base := w.heap.size) (e := 70) (size := 4) w (flatTerm xs).toArray xs.length (Nat.le_refl _) hm (by simp [flatTerm_len])
  simpa [OwnTerm] using h

theorem RdTerm.cells {w : World} {b off : Nat} {xs : List T4} (hc : ∀ i j, i < xs.length → j < 4 → w.cell? ⟨b, off + i * 4 + j, none⟩ = (rowTerm (xs.getD i zTerm))[j]?) (k : Nat) (hk : k < xs.length) (x : T4) (hx : xs.getD k zTerm = x) :
    w.cell? ⟨b, off + k * 4, none⟩ = some (.int .i64 x.o) ∧ w.cell? ⟨b, off + k * 4 + 1, none⟩ = some (.int .i64 x.a) ∧ w.cell? ⟨b, off + k * 4 + 2, none⟩ = some (.int .i64 x.b) ∧ w.cell? ⟨b, off + k * 4 + 3, none⟩ = some (.int .i64 x.n) := by
  subst hx
  exact ⟨hc k 0 hk (by decide), hc k 1 hk (by decide), hc k 2 hk (by decide), hc k 3 hk (by decide)⟩

theorem RdTerm.at {w : World} {b off : Nat} {xs : List T4} (h : RdTerm w (some ⟨b, off, none⟩) xs) (k : Nat) (hk : k < xs.length) (x : T4) (hx : xs.getD k zTerm = x) :
    w.cell? ⟨b, off + k * 4, none⟩ = some (.int .i64 x.o) ∧ w.cell? ⟨b, off + k * 4 + 1, none⟩ = some (.int .i64 x.a) ∧ w.cell? ⟨b, off + k * 4 + 2, none⟩ = some (.int .i64 x.b) ∧ w.cell? ⟨b, off + k * 4 + 3, none⟩ = some (.int .i64 x.n) := by
  rcases h with h | ⟨b', off', h, hc⟩
  · subst h; simp at hk
  · simp only [Option.some.injEq, Addr.mk.injEq, and_true] at h
    obtain ⟨rfl, rfl⟩ := h
    exact RdTerm.cells hc k hk x hx

theorem RdTerm.addr {w : World} {a : Option Addr} {xs : List T4} (h : RdTerm w a xs) (hp : 0 < xs.length) : ∃ b off, a = some ⟨b, off, .none⟩ := by
  rcases h with h | ⟨b, off, rfl, _⟩
  · subst h; simp at hp
  · exact ⟨b, off, rfl⟩

theorem RdTerm.grown {w w' : World} {a : Option Addr} {xs : List T4} {row : Option Nat} (h : RdTerm w a xs) (hg : w.grownBy w' row) (hne : ∀ b : Addr, a = some b → row ≠ some b.block) : RdTerm w' a xs := by
  rcases h with h | ⟨b, off, rfl, hc⟩
  · exact .inl h
  · refine .inr ⟨b, off, rfl, fun i j hi hj => ?_⟩
    have h1 := hc i j hi hj
    obtain ⟨v, hv⟩ : ∃ v, (rowTerm (xs.getD i zTerm))[j]? = some v := ⟨_, List.getElem?_eq_getElem (by rw [rowTerm_len]; exact hj)⟩
    rw [hv] at h1 ⊢
    exact hg.cell h1 fun e => hne _ rfl e.symm

theorem RdTerm.past {w : World} {a : Option Addr} {xs : List T4} {p : Addr} (h : RdTerm w a xs) (hp : ∀ b : Addr, a = some b → b.block ≠ p.block) (v : Value) : RdTerm (w.setCell p v) a xs :=
  h.grown (row := some p.block) ⟨rfl, rfl, rfl, by simp [World.setCell], fun k _ hk => Below.heap_setCell _ _ _ _ (fun e => hk (by rw [e]))⟩ fun b hb e => by
    simp only [Option.some.injEq] at e
    exact hp b hb e.symm

theorem getDTerm_mem {xs : List T4} {k : Nat} (h : k < xs.length) : xs.getD k zTerm ∈ xs := by
  rw [show xs.getD k zTerm = xs[k] by simp [List.getD, h]]; exact List.getElem_mem _

theorem takeTerm (xs : List T4) (k : Nat) (h : k < xs.length) : xs.take (k + 1) = xs.take k ++ [xs.getD k zTerm] := by
  rw [List.take_add_one]
  simp [List.getD, h]

theorem dropTerm (xs : List T4) (k : Nat) (h : k < xs.length) : xs.drop k = xs.getD k zTerm :: xs.drop (k + 1) := by
  rw [List.drop_eq_getElem_cons h]; simp [List.getD, h]

/-- The cells of one are set. -/
def setTerm (L : List Value) (p : Nat) (x : T4) : List Value := ((((L.set (p) (.int .i64 x.o)).set (p + 1) (.int .i64 x.a)).set (p + 2) (.int .i64 x.b)).set (p + 3) (.int .i64 x.n))

theorem setTerm_right (A L : List Value) (p : Nat) (x : T4) (h : A.length ≤ p) : setTerm (A ++ L) p x = A ++ setTerm L (p - A.length) x := by
  unfold setTerm
  rw [List.set_append_right _ _ h]
  rw [List.set_append_right _ _ (by omega), show p + 1 - A.length = p - A.length + 1 by omega]
  rw [List.set_append_right _ _ (by omega), show p + 2 - A.length = p - A.length + 2 by omega]
  rw [List.set_append_right _ _ (by omega), show p + 3 - A.length = p - A.length + 3 by omega]

theorem setTerm_zero (y x : T4) (L : List Value) : setTerm (rowTerm y ++ L) 0 x = rowTerm x ++ L := rfl

theorem setTerm_flat (l : List T4) (k : Nat) (x : T4) (h : k < l.length) : setTerm (flatTerm l) (k * 4) x = flatTerm (l.set k x) := by
  induction l generalizing k with
  | nil => simp at h
  | cons y l ih =>
    cases k with
    | zero => rw [Nat.zero_mul]; exact setTerm_zero y x (flatTerm l)
    | succ k =>
      simp only [flatTerm, List.set_cons_succ]
      rw [setTerm_right _ _ _ _ (by rw [rowTerm_len]; omega), rowTerm_len, show (k + 1) * 4 - 4 = k * 4 by omega, ih k (by simpa using h)]

theorem storedTerm {w : World} {base g cap n : Nat} {e : TypeId} {L : List Value} (h : w.ownsRow base e 4 (.slice (some ⟨g, 0, none⟩) n cap) n L) (k : Nat) (x : T4) :
    ((((w.setCell ⟨g, k * 4, none⟩ (.int .i64 x.o)).setCell ⟨g, k * 4 + 1, none⟩ (.int .i64 x.a)).setCell ⟨g, k * 4 + 2, none⟩ (.int .i64 x.b)).setCell ⟨g, k * 4 + 3, none⟩ (.int .i64 x.n)).ownsRow base e 4 (.slice (some ⟨g, 0, none⟩) n cap) n (setTerm L (k * 4) x) := by
  have h0 := (h.stored (k * 4) (.int .i64 x.o)).1
  have h1 := (h0.stored (k * 4 + 1) (.int .i64 x.a)).1
  have h2 := (h1.stored (k * 4 + 2) (.int .i64 x.b)).1
  have h3 := (h2.stored (k * 4 + 3) (.int .i64 x.n)).1
  exact h3

/-- A row of which the first 'k' are written. -/
def fillTerm (xs : List T4) (k n : Nat) : List T4 := xs.take k ++ List.replicate (n - k) zTerm

theorem fillTerm_zero (xs : List T4) (n : Nat) : fillTerm xs 0 n = List.replicate n zTerm := by simp [fillTerm]

theorem fillTerm_all (xs : List T4) (n : Nat) (h : xs.length = n) : fillTerm xs n n = xs := by simp [fillTerm, ← h]

theorem fillTerm_len (xs : List T4) (k n : Nat) (h : xs.length = n) (hk : k ≤ n) : (fillTerm xs k n).length = n := by
  simp [fillTerm]; omega

theorem fillTerm_set (xs : List T4) (k n : Nat) (h : xs.length = n) (hk : k < n) : (fillTerm xs k n).set k (xs.getD k zTerm) = fillTerm xs (k + 1) n := by
  unfold fillTerm
  rw [takeTerm xs k (by omega), List.set_append_right _ _ (by simp; omega)]
  have hlen : (xs.take k).length = k := by simp; omega
  rw [hlen, Nat.sub_self]
  obtain ⟨m, hm⟩ : ∃ m, n - k = m + 1 := ⟨n - k - 1, by omega⟩
  rw [hm, show n - (k + 1) = m from by omega]
  simp [List.replicate_succ]

theorem fillTerm_at (xs : List T4) (k n : Nat) (h : xs.length = n) (hk : k < n) : (fillTerm xs k n).getD k zTerm = zTerm := by
  unfold fillTerm
  have hlen : (xs.take k).length = k := by simp; omega
  rw [List.getD, List.getElem?_append_right (by omega), hlen, Nat.sub_self]
  obtain ⟨m, hm⟩ : ∃ m, n - k = m + 1 := ⟨n - k - 1, by omega⟩
  rw [hm]; rfl

theorem zerosTerm (n : Nat) : flatTerm (List.replicate n zTerm) = List.replicate (n * 4) (.int .i64 0) := by
  induction n with
  | zero => rfl
  | succ n ih =>
    rw [List.replicate_succ, flatTerm, ih, show (n + 1) * 4 = 4 + n * 4 by omega, ← List.replicate_append_replicate]
    rfl

theorem madeTerm (n : Nat) : (madeCells #[.int .i64 0, .int .i64 0, .int .i64 0, .int .i64 0] n).toList = List.replicate n (.int .i64 0) := by
  rw [List.eq_replicate_iff]
  refine ⟨by simp [madeCells], fun v hv => ?_⟩
  simp only [madeCells, Array.toList_map, List.mem_map] at hv
  obtain ⟨i, _, rfl⟩ := hv
  have hi : i % 4 < 4 := Nat.mod_lt _ (by decide)
  show (#[.int .i64 0, .int .i64 0, .int .i64 0, .int .i64 0] : Array Value)[i % 4]! = _
  generalize i % 4 = j at *
  match j, hi with
  | 0, _ => rfl
  | 1, _ => rfl
  | 2, _ => rfl
  | 3, _ => rfl

theorem Tryd.infoTerm : (Tryd.prog.info? 70).map (fun i => (i.zero, i.size, i.bytes)) = some (some (.agg #[.int .i64 0, .int .i64 0, .int .i64 0, .int .i64 0]), 4, 32) := by kernel_rfl

/-- One is put behind the others of a row of one's own. -/
theorem wpList_putTerm {ops : Array Oper} {rest : List Oper} {o : Oper} {a : Act} {Q : Exit → Act → World → Prop} (w : World) (hgd : o.guard = none) (s x : Operand)
    (ho : o.op = .call { callee := .builtin .append, args := #[s, x], argTypes := #[24, 24] })
    (base : Nat) (c : Option Addr) (d : Nat) (xs : List T4) (n : Nat) (hn : xs.length = n) (hs : a.eval s = .slice c n d) (hown : OwnTerm w base c d xs)
    (ad : Addr) (cc : Nat) (p : T4) (hx : a.eval x = .slice (some ad) 1 cc) (hp : ∀ j u, (rowTerm p)[j]? = some u → w.cell? (ad.add j) = some u)
    (hlen : n ≤ 1000000) (hbase : base ≤ w.heap.size)
    (h : ∀ c' d' w', OwnTerm w' base c' d' (xs ++ [p]) → w.grownBy w' (c.map Addr.block) → Hid (∃ g, c' = some ⟨g, 0, none⟩ ∧ ((∃ a, c = some a ∧ a.block = g) ∨ g = w.heap.size) ∧ g < w'.heap.size) → wpList Tryd.prog ops Q rest (a.put o.dst (.slice c' (n + 1) d')) w') : wpList Tryd.prog ops Q (o :: rest) a w := by
  subst hn
  obtain ⟨i, hi, hz, hsz, hby⟩ : ∃ i, Tryd.prog.info? 70 = some i ∧ i.zero = some (.agg #[.int .i64 0, .int .i64 0, .int .i64 0, .int .i64 0]) ∧ i.size = 4 ∧ i.bytes = 32 := by
    have h := Tryd.infoTerm
    cases he : Tryd.prog.info? 70 with
    | none => rw [he] at h; cases h
    | some i =>
      rw [he] at h
      simp only [Option.map_some, Option.some.injEq, Prod.mk.injEq] at h
      exact ⟨i, rfl, h.1, h.2.1, h.2.2⟩
  refine wpList_append_lies w hgd s x 24 ho base 70 i _ 4 32 Tryd.underlying24 hi hz hsz hby (by rfl) (by decide) (.slice c xs.length d) xs.length (flatTerm xs) hs hown ad 1 cc (rowTerm p) hx rfl hp ?_ (by decide) (by unfold maxLen; omega) (by omega) hbase _ rfl ?_
  · intro u hu
    simp only [rowTerm, List.mem_cons, List.not_mem_nil, or_false] at hu
    rcases hu with rfl | rfl | rfl | rfl <;> rfl
  · intro g cap w' h1 h2 h3 h4
    have e1 : (xs ++ [p]).length = xs.length + 1 := by simp
    have e2 : flatTerm xs ++ rowTerm p = flatTerm (xs ++ [p]) := by rw [flatTerm_app]; simp [flatTerm]
    have h2' : w.grownBy w' (c.map Addr.block) := by cases c <;> exact h2
    refine h _ _ w' ?_ h2' (Hid.mk ⟨g, rfl, ?_, h4⟩)
    · unfold OwnTerm; rw [e1, ← e2]; exact h1
    · rcases h3 with h3 | h3
      · left; cases c with
        | none => cases h3
        | some b => exact ⟨b, rfl, by simpa [Value.ownBlock] using h3⟩
      · exact .inr h3

/-- One of marks. -/
def mTerm (p : Int) : T4 := ⟨p, p + 1, p + 1 + 1, p + 1 + 1 + 1⟩

/-- Some of marks. -/
def marksTerm (q : Int) (n : Nat) : List T4 := (List.range n).map fun (i : Nat) => mTerm (q + 4 * (i : Int))

theorem marksTerm_len (q : Int) (n : Nat) : (marksTerm q n).length = n := by simp [marksTerm]

theorem marksTerm_at (q : Int) (n k : Nat) (h : k < n) : (marksTerm q n).getD k zTerm = mTerm (q + 4 * (k : Int)) := by
  simp [marksTerm, List.getD, h]

/-- A row of which the first 'k' are marked. -/
def mfillTerm (q : Int) (k : Nat) (xs : List T4) : List T4 := marksTerm q k ++ xs.drop k

theorem mfillTerm_zero (q : Int) (xs : List T4) : mfillTerm q 0 xs = xs := by simp [mfillTerm, marksTerm]

theorem mfillTerm_all (q : Int) (xs : List T4) (n : Nat) (h : xs.length = n) : mfillTerm q n xs = marksTerm q n := by simp [mfillTerm, ← h]

theorem mfillTerm_len (q : Int) (k : Nat) (xs : List T4) (n : Nat) (h : xs.length = n) (hk : k ≤ n) : (mfillTerm q k xs).length = n := by
  simp [mfillTerm, marksTerm_len]; omega

theorem mfillTerm_set (q : Int) (k : Nat) (xs : List T4) (h : k < xs.length) : (mfillTerm q k xs).set k (mTerm (q + 4 * (k : Int))) = mfillTerm q (k + 1) xs := by
  unfold mfillTerm
  rw [List.set_append_right _ _ (by rw [marksTerm_len]; exact Nat.le_refl _), marksTerm_len, Nat.sub_self, dropTerm xs k h, List.set_cons_zero]
  simp [marksTerm, List.range_succ]

theorem mfillTerm_at (q : Int) (k : Nat) (xs : List T4) : (mfillTerm q k xs).getD k zTerm = xs.getD k zTerm := by
  unfold mfillTerm
  simp only [List.getD]
  rw [List.getElem?_append_right (by rw [marksTerm_len]; exact Nat.le_refl _), marksTerm_len, Nat.sub_self, List.getElem?_drop, Nat.add_zero]


/-- One cell of one is another number. -/
def updTerm (x : T4) (j : Nat) (v : Int) : T4 :=
  match j with
  | 0 => ⟨v, x.a, x.b, x.n⟩
  | 1 => ⟨x.o, v, x.b, x.n⟩
  | 2 => ⟨x.o, x.a, v, x.n⟩
  | 3 => ⟨x.o, x.a, x.b, v⟩
  | _ => x

theorem updTerm_row (x : T4) (j : Nat) (v : Int) (h : j < 4) : rowTerm (updTerm x j v) = (rowTerm x).set j (.int .i64 v) := by
  match j, h with
  | 0, _ => rfl
  | 1, _ => rfl
  | 2, _ => rfl
  | 3, _ => rfl

theorem flatTerm_set (xs : List T4) (k j : Nat) (hk : k < xs.length) (hj : j < 4) (v : Int) : (flatTerm xs).set (k * 4 + j) (.int .i64 v) = flatTerm (xs.set k (updTerm (xs.getD k zTerm) j v)) := by
  induction xs generalizing k with
  | nil => simp at hk
  | cons x xs ih =>
    cases k with
    | zero =>
      have e : (x :: xs).getD 0 zTerm = x := rfl
      rw [e, List.set_cons_zero, Nat.zero_mul, Nat.zero_add]
      simp only [flatTerm]
      rw [List.set_append_left _ _ (by rw [rowTerm_len]; exact hj), updTerm_row x j v hj]
    | succ k =>
      have e : (x :: xs).getD (k + 1) zTerm = xs.getD k zTerm := rfl
      rw [e, List.set_cons_succ]
      simp only [flatTerm]
      rw [List.set_append_right _ _ (by rw [rowTerm_len]; omega), rowTerm_len, show (k + 1) * 4 + j - 4 = k * 4 + j by omega, ih k (by simpa using hk)]

/-- One cell of a row of one's own is written. -/
theorem OwnTerm.poke {w : World} {base g : Nat} {cap : Nat} {xs : List T4} (h : OwnTerm w base (some ⟨g, 0, .none⟩) cap xs) (k j : Nat) (hk : k < xs.length) (hj : j < 4) (v : Int) :
    OwnTerm (w.setCell ⟨g, k * 4 + j, .none⟩ (.int .i64 v)) base (some ⟨g, 0, .none⟩) cap (xs.set k (updTerm (xs.getD k zTerm) j v)) := by
  unfold OwnTerm at *
  rw [List.length_set, ← flatTerm_set xs k j hk hj v]
  exact (World.ownsRow.stored h (k * 4 + j) (.int .i64 v)).1

theorem RdTerm.flat {w : World} {b off : Nat} {xs : List T4} (h : RdTerm w (some ⟨b, off, .none⟩) xs) : ∀ j u, (flatTerm xs)[j]? = some u → w.cell? ⟨b, off + j, .none⟩ = some u := by
  intro j u hu
  have hj : j < xs.length * 4 := by
    have := (List.getElem?_eq_some_iff.1 hu).1
    rwa [flatTerm_len] at this
  rcases h with h | ⟨b', off', h, hc⟩
  · subst h; simp at hj
  · simp only [Option.some.injEq, Addr.mk.injEq, and_true] at h
    obtain ⟨rfl, rfl⟩ := h
    have h1 : j / 4 < xs.length := by omega
    have h2 : j % 4 < 4 := Nat.mod_lt _ (by decide)
    have h3 := hc (j / 4) (j % 4) h1 h2
    rw [← flatTerm_at xs (j / 4) (j % 4) h1 h2, show j / 4 * 4 + j % 4 = j by omega, hu] at h3
    rw [← h3]
    congr 2
    omega

theorem flatTerm_one (xs : List T4) : ∀ u ∈ flatTerm xs, u.oneCell' = true := by
  induction xs with
  | nil => intro u hu; cases hu
  | cons x xs ih =>
    intro u hu
    simp only [flatTerm, List.mem_append] at hu
    rcases hu with hu | hu
    · simp only [rowTerm, List.mem_cons, List.not_mem_nil, or_false] at hu
      rcases hu with rfl | rfl | rfl | rfl <;> rfl
    · exact ih u hu

/-- All of a slice that is read are put behind the others of a row of one's own. -/
theorem wpList_putsTerm {ops : Array Oper} {rest : List Oper} {o : Oper} {a : Act} {Q : Exit → Act → World → Prop} (w : World) (hgd : o.guard = none) (s x : Operand)
    (ho : o.op = .call { callee := .builtin .append, args := #[s, x], argTypes := #[24, 24] })
    (base : Nat) (c : Option Addr) (d : Nat) (xs : List T4) (n : Nat) (hn : xs.length = n) (hs : a.eval s = .slice c n d) (hown : OwnTerm w base c d xs)
    (b off m cc : Nat) (ys : List T4) (hx : a.eval x = .slice (some ⟨b, off, .none⟩) m cc) (hr : RdTerm w (some ⟨b, off, .none⟩) ys) (hm : ys.length = m) (hm0 : 0 < m)
    (hlen : n + m ≤ 1000000) (hbase : base ≤ w.heap.size)
    (h : ∀ c' d' w', OwnTerm w' base c' d' (xs ++ ys) → w.grownBy w' (c.map Addr.block) → Hid (∃ g, c' = some ⟨g, 0, .none⟩ ∧ ((∃ a, c = some a ∧ a.block = g) ∨ g = w.heap.size) ∧ g < w'.heap.size) → wpList Tryd.prog ops Q rest (a.put o.dst (.slice c' (n + m) d')) w') : wpList Tryd.prog ops Q (o :: rest) a w := by
  subst hn
  subst hm
  obtain ⟨i, hi, hz, hsz, hby⟩ : ∃ i, Tryd.prog.info? 70 = some i ∧ i.zero = some (.agg #[.int .i64 0, .int .i64 0, .int .i64 0, .int .i64 0]) ∧ i.size = 4 ∧ i.bytes = 32 := by
    have h := Tryd.infoTerm
    cases he : Tryd.prog.info? 70 with
    | none => rw [he] at h; cases h
    | some i =>
      rw [he] at h
      simp only [Option.map_some, Option.some.injEq, Prod.mk.injEq] at h
      exact ⟨i, rfl, h.1, h.2.1, h.2.2⟩
  refine wpList_append_lies w hgd s x 24 ho base 70 i _ 4 32 Tryd.underlying24 hi hz hsz hby (by rfl) (by decide) (.slice c xs.length d) xs.length (flatTerm xs) hs hown ⟨b, off, .none⟩ ys.length cc (flatTerm ys) hx (flatTerm_len ys) (fun j u hu => ?_) (flatTerm_one ys) hm0 (by unfold maxLen; omega) (by omega) hbase _ rfl ?_
  · have h1 := hr.flat j u hu
    rw [Addr.add_mid]; exact h1
  · intro g cap w' h1 h2 h3 h4
    have e1 : (xs ++ ys).length = xs.length + ys.length := by simp
    have h2' : w.grownBy w' (c.map Addr.block) := by cases c <;> exact h2
    refine h _ _ w' ?_ h2' (Hid.mk ⟨g, rfl, ?_, h4⟩)
    · unfold OwnTerm; rw [e1, flatTerm_app]; exact h1
    · rcases h3 with h3 | h3
      · left; cases c with
        | none => cases h3
        | some b => exact ⟨b, rfl, by simpa [Value.ownBlock] using h3⟩
      · exact .inr h3

theorem OwnTerm.there {w : World} {base g : Nat} {cap : Nat} {xs : List T4} (h : OwnTerm w base (some ⟨g, 0, .none⟩) cap xs) (k : Nat) (hk : k < xs.length) : w.there g (k * 4) 4 := fun j hj => by
  refine ⟨?_, World.ownsRow.frozenAt h _⟩
  rw [World.ownsRow.cellAt h (k * 4 + j) (by omega), flatTerm_at xs k j hk hj, List.getElem?_eq_getElem (by rw [rowTerm_len]; exact hj)]; rfl

/-- One of a row of one's own is written whole, at one stroke. -/
theorem OwnTerm.stroke {w : World} {base g : Nat} {cap : Nat} {xs : List T4} (h : OwnTerm w base (some ⟨g, 0, .none⟩) cap xs) (k : Nat) (hk : k < xs.length) (y : T4) : OwnTerm (w.setCells g (k * 4) (rowTerm y)) base (some ⟨g, 0, .none⟩) cap (xs.set k y) := by
  have h1 := storedTerm h k y
  rw [setTerm_flat xs k y hk] at h1
  unfold OwnTerm
  rw [List.length_set]
  simpa only [rowTerm, World.setCells, Nat.add_assoc, Nat.reduceAdd] using h1

/-- Another box is filled. -/
theorem OwnTerm.apart {w : World} {base : Nat} {a : Option Addr} {cap : Nat} {xs : List T4} {B : Nat} (h : OwnTerm w base a cap xs) (hB : ∀ b : Addr, a = some b → b.block ≠ B) (o : Nat) (vs : List Value) : OwnTerm (w.setCells B o vs) base a cap xs := by
  induction vs generalizing w o with
  | nil => exact h
  | cons v vs ih => exact ih (w := w.setCell ⟨B, o, .none⟩ v) (h.away (p := ⟨B, o, .none⟩) hB v) (o + 1)

end Go.Proofs.YthjaehcfakjemaaDoor
