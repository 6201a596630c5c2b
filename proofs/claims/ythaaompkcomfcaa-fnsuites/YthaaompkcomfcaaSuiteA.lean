/- Slices of 'Suite': cells, reads, own rows (written by gentype.py). -/
import Derived.Test.YthaaompkcomfcaaPkt
import Derived.Test.YthaaompkcomfcaaNewC
import Derived.Deep.AppendLies
import Derived.Deep.MidRow
namespace Go.Proofs.Ythaaompkcomfcaa
open Go.RowKit

/-- A suite: its cipher, its bits, its mix, its group. -/
structure Su where
  c : Int
  b : Int
  m : Int
  g : Int
deriving DecidableEq

/-- The cells of one. -/
def rowSuite (x : Su) : List Value := [.int .i64 x.c, .int .i64 x.b, .int .i64 x.m, .int .i64 x.g]

/-- One of noughts. -/
def zSuite : Su := ⟨0, 0, 0, 0⟩

/-- The cells, one behind the other. -/
def flatSuite : List Su → List Value
  | [] => []
  | x :: xs => rowSuite x ++ flatSuite xs

theorem rowSuite_len (x : Su) : (rowSuite x).length = 4 := rfl

theorem flatSuite_len (xs : List Su) : (flatSuite xs).length = xs.length * 4 := by
  induction xs with
  | nil => rfl
  | cons x xs ih => simp only [flatSuite, List.length_append, rowSuite_len, ih, List.length_cons]; omega

theorem flatSuite_app (xs ys : List Su) : flatSuite (xs ++ ys) = flatSuite xs ++ flatSuite ys := by
  induction xs with
  | nil => rfl
  | cons x xs ih => simp only [List.cons_append, flatSuite, ih, List.append_assoc]

theorem flatSuite_at (xs : List Su) (k j : Nat) (hk : k < xs.length) (hj : j < 4) : (flatSuite xs)[k * 4 + j]? = (rowSuite (xs.getD k zSuite))[j]? := by
  induction xs generalizing k with
  | nil => simp at hk
  | cons x xs ih =>
    cases k with
    | zero =>
      simp only [flatSuite, Nat.zero_mul, Nat.zero_add]
      rw [List.getElem?_append_left (by rw [rowSuite_len]; exact hj)]
      simp [List.getD]
    | succ k =>
      simp only [flatSuite]
      rw [List.getElem?_append_right (by rw [rowSuite_len]; omega), rowSuite_len, show (k + 1) * 4 + j - 4 = k * 4 + j by omega, ih k (by simpa using hk)]
      simp [List.getD]

/-- A slice at address 'a' reads as 'xs' in 'w'. -/
def RdSuite (w : World) (a : Option Addr) (xs : List Su) : Prop :=
  xs = [] ∨ ∃ b off, a = some ⟨b, off, none⟩ ∧ ∀ i j, i < xs.length → j < 4 → w.cell? ⟨b, off + i * 4 + j, none⟩ = (rowSuite (xs.getD i zSuite))[j]?

/-- A slice that is the call's own. -/
def OwnSuite (w : World) (base : Nat) (a : Option Addr) (cap : Nat) (xs : List Su) : Prop :=
  w.ownsRow base 28 4 (.slice a xs.length cap) xs.length (flatSuite xs)

theorem RdSuite.nil {w : World} {a : Option Addr} : RdSuite w a [] := .inl rfl

theorem RdSuite.kept {w w' : World} {a : Option Addr} {xs : List Su} (h : RdSuite w a xs) (hb : Below w.heap.size w w') : RdSuite w' a xs := by
  rcases h with h | ⟨b, off, rfl, hc⟩
  · exact .inl h
  · refine .inr ⟨b, off, rfl, fun i j hi hj => ?_⟩
    have h1 := hc i j hi hj
    obtain ⟨v, hv⟩ : ∃ v, (rowSuite (xs.getD i zSuite))[j]? = some v := ⟨_, List.getElem?_eq_getElem (by rw [rowSuite_len]; exact hj)⟩
    rw [hv] at h1 ⊢
    exact (hb.cell (World.block_lt_of_cell? (a := ⟨b, off + i * 4 + j, none⟩) w h1)).trans h1

theorem OwnSuite.rd {w : World} {base : Nat} {a : Option Addr} {cap : Nat} {xs : List Su} (h : OwnSuite w base a cap xs) : RdSuite w a xs := by
  rcases h.2 with ⟨_, h0⟩ | ⟨g, cap', cur, hv, _⟩
  · exact .inl (List.eq_nil_of_length_eq_zero h0)
  · simp only [Value.slice.injEq, true_and] at hv
    obtain ⟨rfl, rfl⟩ := hv
    refine .inr ⟨g, 0, rfl, fun i j hi hj => ?_⟩
    rw [Nat.zero_add, World.ownsRow.cellAt h (i * 4 + j) (by omega), flatSuite_at xs i j hi hj]

theorem OwnSuite.lt {w : World} {base : Nat} {a : Option Addr} {cap : Nat} {xs : List Su} (h : OwnSuite w base a cap xs) : ∀ b, a = some b → base ≤ b.block ∧ b.block < w.heap.size := by
  intro b hb
  subst hb
  exact World.ownsRow.lt h b.block rfl

theorem OwnSuite.grown {w w' : World} {base : Nat} {a : Option Addr} {cap : Nat} {xs : List Su} {row : Option Nat} (h : OwnSuite w base a cap xs) (hg : w.grownBy w' row)
    (hne : ∀ b, a = some b → row ≠ some b.block) : OwnSuite w' base a cap xs := by
  refine World.ownsRow.kept h hg ?_
  cases a with
  | none => exact .inl rfl
  | some b => exact .inr fun e => hne b rfl e.symm

theorem OwnSuite.kept {w w' : World} {base : Nat} {a : Option Addr} {cap : Nat} {xs : List Su} (h : OwnSuite w base a cap xs) (hb : Below w.heap.size w w') : OwnSuite w' base a cap xs :=
  h.grown (Below.grownBy hb none) fun _ _ => by simp

theorem OwnSuite.mono {w : World} {base base' : Nat} {a : Option Addr} {cap : Nat} {xs : List Su} (h : OwnSuite w base a cap xs) (hb : base' ≤ base) : OwnSuite w base' a cap xs := by
  obtain ⟨h1, h2⟩ := h
  refine ⟨h1, ?_⟩
  rcases h2 with h2 | ⟨g, cap', cur, hv, hg, r⟩
  · exact .inl h2
  · exact .inr ⟨g, cap', cur, hv, by omega, r⟩

theorem OwnSuite.none {w : World} {base : Nat} : OwnSuite w base none 0 [] := World.ownsRow_nil _ _ _ _

theorem OwnSuite.below {w : World} {base : Nat} {a : Option Addr} {cap : Nat} {xs : List Su} (h : OwnSuite w base a cap xs) {p : Addr} (hp : p.block < base) (u : Value) : OwnSuite (w.setCell p u) base a cap xs :=
  h.grown ⟨rfl, rfl, rfl, by simp [World.setCell], fun k _ hk => Below.heap_setCell _ _ _ _ (fun e => hk (by rw [e]))⟩ fun b hb e => by
    have := (h.lt b hb).1
    simp only [Option.some.injEq] at e
    omega

theorem OwnSuite.away {w : World} {base : Nat} {a : Option Addr} {cap : Nat} {xs : List Su} {p : Addr} (h : OwnSuite w base a cap xs) (hp : ∀ b : Addr, a = some b → b.block ≠ p.block) (u : Value) : OwnSuite (w.setCell p u) base a cap xs :=
  h.grown ⟨rfl, rfl, rfl, by simp [World.setCell], fun k _ hk => Below.heap_setCell _ _ _ _ (fun e => hk (by rw [e]))⟩ fun b hb e => by
    simp only [Option.some.injEq] at e
    exact hp b hb e.symm

theorem OwnSuite.lit (w : World) (xs : List Su) (vs : List Value) (hv : vs = flatSuite xs) (hm : xs.length ≤ maxLen) : OwnSuite (w.alloc (.cells vs.toArray 28)) w.heap.size (some ⟨w.heap.size, 0, .none⟩) xs.length xs := by
  subst hv
  have h := World.ownsRow_lit (base := w.heap.size) (e := 28) (size := 4) w (flatSuite xs).toArray xs.length (Nat.le_refl _) hm (by simp [flatSuite_len])
  simpa [OwnSuite] using h

theorem RdSuite.cells {w : World} {b off : Nat} {xs : List Su} (hc : ∀ i j, i < xs.length → j < 4 → w.cell? ⟨b, off + i * 4 + j, none⟩ = (rowSuite (xs.getD i zSuite))[j]?) (k : Nat) (hk : k < xs.length) (x : Su) (hx : xs.getD k zSuite = x) :
    w.cell? ⟨b, off + k * 4, none⟩ = some (.int .i64 x.c) ∧ w.cell? ⟨b, off + k * 4 + 1, none⟩ = some (.int .i64 x.b) ∧ w.cell? ⟨b, off + k * 4 + 2, none⟩ = some (.int .i64 x.m) ∧ w.cell? ⟨b, off + k * 4 + 3, none⟩ = some (.int .i64 x.g) := by
  subst hx
  exact ⟨hc k 0 hk (by decide), hc k 1 hk (by decide), hc k 2 hk (by decide), hc k 3 hk (by decide)⟩

theorem RdSuite.at {w : World} {b off : Nat} {xs : List Su} (h : RdSuite w (some ⟨b, off, none⟩) xs) (k : Nat) (hk : k < xs.length) (x : Su) (hx : xs.getD k zSuite = x) :
    w.cell? ⟨b, off + k * 4, none⟩ = some (.int .i64 x.c) ∧ w.cell? ⟨b, off + k * 4 + 1, none⟩ = some (.int .i64 x.b) ∧ w.cell? ⟨b, off + k * 4 + 2, none⟩ = some (.int .i64 x.m) ∧ w.cell? ⟨b, off + k * 4 + 3, none⟩ = some (.int .i64 x.g) := by
  rcases h with h | ⟨b', off', h, hc⟩
  · subst h; simp at hk
  · simp only [Option.some.injEq, Addr.mk.injEq, and_true] at h
    obtain ⟨rfl, rfl⟩ := h
    exact RdSuite.cells hc k hk x hx

theorem RdSuite.addr {w : World} {a : Option Addr} {xs : List Su} (h : RdSuite w a xs) (hp : 0 < xs.length) : ∃ b off, a = some ⟨b, off, .none⟩ := by
  rcases h with h | ⟨b, off, rfl, _⟩
  · subst h; simp at hp
  · exact ⟨b, off, rfl⟩

theorem RdSuite.grown {w w' : World} {a : Option Addr} {xs : List Su} {row : Option Nat} (h : RdSuite w a xs) (hg : w.grownBy w' row) (hne : ∀ b : Addr, a = some b → row ≠ some b.block) : RdSuite w' a xs := by
  rcases h with h | ⟨b, off, rfl, hc⟩
  · exact .inl h
  · refine .inr ⟨b, off, rfl, fun i j hi hj => ?_⟩
    have h1 := hc i j hi hj
    obtain ⟨v, hv⟩ : ∃ v, (rowSuite (xs.getD i zSuite))[j]? = some v := ⟨_, List.getElem?_eq_getElem (by rw [rowSuite_len]; exact hj)⟩
    rw [hv] at h1 ⊢
    exact hg.cell h1 fun e => hne _ rfl e.symm

theorem RdSuite.past {w : World} {a : Option Addr} {xs : List Su} {p : Addr} (h : RdSuite w a xs) (hp : ∀ b : Addr, a = some b → b.block ≠ p.block) (v : Value) : RdSuite (w.setCell p v) a xs :=
  h.grown (row := some p.block) ⟨rfl, rfl, rfl, by simp [World.setCell], fun k _ hk => Below.heap_setCell _ _ _ _ (fun e => hk (by rw [e]))⟩ fun b hb e => by
    simp only [Option.some.injEq] at e
    exact hp b hb e.symm

theorem getDSuite_mem {xs : List Su} {k : Nat} (h : k < xs.length) : xs.getD k zSuite ∈ xs := by
  rw [show xs.getD k zSuite = xs[k] by simp [List.getD, h]]; exact List.getElem_mem _

theorem takeSuite (xs : List Su) (k : Nat) (h : k < xs.length) : xs.take (k + 1) = xs.take k ++ [xs.getD k zSuite] := by
  rw [List.take_add_one]
  simp [List.getD, h]

theorem dropSuite (xs : List Su) (k : Nat) (h : k < xs.length) : xs.drop k = xs.getD k zSuite :: xs.drop (k + 1) := by
  rw [List.drop_eq_getElem_cons h]; simp [List.getD, h]

/-- The cells of one are set. -/
def setSuite (L : List Value) (p : Nat) (x : Su) : List Value := ((((L.set (p) (.int .i64 x.c)).set (p + 1) (.int .i64 x.b)).set (p + 2) (.int .i64 x.m)).set (p + 3) (.int .i64 x.g))

theorem setSuite_right (A L : List Value) (p : Nat) (x : Su) (h : A.length ≤ p) : setSuite (A ++ L) p x = A ++ setSuite L (p - A.length) x := by
  unfold setSuite
  rw [List.set_append_right _ _ h]
  rw [List.set_append_right _ _ (by omega), show p + 1 - A.length = p - A.length + 1 by omega]
  rw [List.set_append_right _ _ (by omega), show p + 2 - A.length = p - A.length + 2 by omega]
  rw [List.set_append_right _ _ (by omega), show p + 3 - A.length = p - A.length + 3 by omega]

theorem setSuite_zero (y x : Su) (L : List Value) : setSuite (rowSuite y ++ L) 0 x = rowSuite x ++ L := rfl

theorem setSuite_flat (l : List Su) (k : Nat) (x : Su) (h : k < l.length) : setSuite (flatSuite l) (k * 4) x = flatSuite (l.set k x) := by
  induction l generalizing k with
  | nil => simp at h
  | cons y l ih =>
    cases k with
    | zero => rw [Nat.zero_mul]; exact setSuite_zero y x (flatSuite l)
    | succ k =>
      simp only [flatSuite, List.set_cons_succ]
      rw [setSuite_right _ _ _ _ (by rw [rowSuite_len]; omega), rowSuite_len, show (k + 1) * 4 - 4 = k * 4 by omega, ih k (by simpa using h)]

theorem storedSuite {w : World} {base g cap n : Nat} {e : TypeId} {L : List Value} (h : w.ownsRow base e 4 (.slice (some ⟨g, 0, none⟩) n cap) n L) (k : Nat) (x : Su) :
    ((((w.setCell ⟨g, k * 4, none⟩ (.int .i64 x.c)).setCell ⟨g, k * 4 + 1, none⟩ (.int .i64 x.b)).setCell ⟨g, k * 4 + 2, none⟩ (.int .i64 x.m)).setCell ⟨g, k * 4 + 3, none⟩ (.int .i64 x.g)).ownsRow base e 4 (.slice (some ⟨g, 0, none⟩) n cap) n (setSuite L (k * 4) x) := by
  have h0 := (h.stored (k * 4) (.int .i64 x.c)).1
  have h1 := (h0.stored (k * 4 + 1) (.int .i64 x.b)).1
  have h2 := (h1.stored (k * 4 + 2) (.int .i64 x.m)).1
  have h3 := (h2.stored (k * 4 + 3) (.int .i64 x.g)).1
  exact h3

/-- A row of which the first 'k' are written. -/
def fillSuite (xs : List Su) (k n : Nat) : List Su := xs.take k ++ List.replicate (n - k) zSuite

theorem fillSuite_zero (xs : List Su) (n : Nat) : fillSuite xs 0 n = List.replicate n zSuite := by simp [fillSuite]

theorem fillSuite_all (xs : List Su) (n : Nat) (h : xs.length = n) : fillSuite xs n n = xs := by simp [fillSuite, ← h]

theorem fillSuite_len (xs : List Su) (k n : Nat) (h : xs.length = n) (hk : k ≤ n) : (fillSuite xs k n).length = n := by
  simp [fillSuite]; omega

theorem fillSuite_set (xs : List Su) (k n : Nat) (h : xs.length = n) (hk : k < n) : (fillSuite xs k n).set k (xs.getD k zSuite) = fillSuite xs (k + 1) n := by
  unfold fillSuite
  rw [takeSuite xs k (by omega), List.set_append_right _ _ (by simp; omega)]
  have hlen : (xs.take k).length = k := by simp; omega
  rw [hlen, Nat.sub_self]
  obtain ⟨m, hm⟩ : ∃ m, n - k = m + 1 := ⟨n - k - 1, by omega⟩
  rw [hm, show n - (k + 1) = m from by omega]
  simp [List.replicate_succ]

theorem fillSuite_at (xs : List Su) (k n : Nat) (h : xs.length = n) (hk : k < n) : (fillSuite xs k n).getD k zSuite = zSuite := by
  unfold fillSuite
  have hlen : (xs.take k).length = k := by simp; omega
  rw [List.getD, List.getElem?_append_right (by omega), hlen, Nat.sub_self]
  obtain ⟨m, hm⟩ : ∃ m, n - k = m + 1 := ⟨n - k - 1, by omega⟩
  rw [hm]; rfl

theorem zerosSuite (n : Nat) : flatSuite (List.replicate n zSuite) = List.replicate (n * 4) (.int .i64 0) := by
  induction n with
  | zero => rfl
  | succ n ih =>
    rw [List.replicate_succ, flatSuite, ih, show (n + 1) * 4 = 4 + n * 4 by omega, ← List.replicate_append_replicate]
    rfl

theorem madeSuite (n : Nat) : (madeCells #[.int .i64 0, .int .i64 0, .int .i64 0, .int .i64 0] n).toList = List.replicate n (.int .i64 0) := by
  rw [List.eq_replicate_iff]
  refine ⟨by simp [madeCells], fun v hv => ?_⟩
  simp only [madeCells, Array.toList_map, List.mem_map] at hv
  obtain ⟨i, _, rfl⟩ := hv
  have hi : i % 4 < 4 := Nat.mod_lt _ (by decide)
  show (#[.int .i64 0, .int .i64 0, .int .i64 0, .int .i64 0] : Array Value)[i % 4]! = _
  generalize i % 4 = j at *
  match j, hi with
  | 0, _ => rfl
  | 1, _ => rfl
  | 2, _ => rfl
  | 3, _ => rfl

theorem Try.infoSuite : (Try.prog.info? 28).map (fun i => (i.zero, i.size, i.bytes)) = some (some (.agg #[.int .i64 0, .int .i64 0, .int .i64 0, .int .i64 0]), 4, 32) := by kernel_rfl

/-- One is put behind the others of a row of one's own. -/
theorem wpList_putSuite {ops : Array Oper} {rest : List Oper} {o : Oper} {a : Act} {Q : Exit → Act → World → Prop} (w : World) (hgd : o.guard = none) (s x : Operand)
    (ho : o.op = .call { callee := .builtin .append, args := #[s, x], argTypes := #[24, 24] })
    (base : Nat) (c : Option Addr) (d : Nat) (xs : List Su) (n : Nat) (hn : xs.length = n) (hs : a.eval s = .slice c n d) (hown : OwnSuite w base c d xs)
    (ad : Addr) (cc : Nat) (p : Su) (hx : a.eval x = .slice (some ad) 1 cc) (hp : ∀ j u, (rowSuite p)[j]? = some u → w.cell? (ad.add j) = some u)
    (hlen : n ≤ 1000000) (hbase : base ≤ w.heap.size)
    (h : ∀ c' d' w', OwnSuite w' base c' d' (xs ++ [p]) → w.grownBy w' (c.map Addr.block) → Hid (∃ g, c' = some ⟨g, 0, none⟩ ∧ ((∃ a, c = some a ∧ a.block = g) ∨ g = w.heap.size) ∧ g < w'.heap.size) → wpList Try.prog ops Q rest (a.put o.dst (.slice c' (n + 1) d')) w') : wpList Try.prog ops Q (o :: rest) a w := by
  subst hn
  obtain ⟨i, hi, hz, hsz, hby⟩ : ∃ i, Try.prog.info? 28 = some i ∧ i.zero = some (.agg #[.int .i64 0, .int .i64 0, .int .i64 0, .int .i64 0]) ∧ i.size = 4 ∧ i.bytes = 32 := by
    have h := Try.infoSuite
    cases he : Try.prog.info? 28 with
    | none => rw [he] at h; cases h
    | some i =>
      rw [he] at h
      simp only [Option.map_some, Option.some.injEq, Prod.mk.injEq] at h
      exact ⟨i, rfl, h.1, h.2.1, h.2.2⟩
  refine wpList_append_lies w hgd s x 24 ho base 28 i _ 4 32 Try.underlying24 hi hz hsz hby (by rfl) (by decide) (.slice c xs.length d) xs.length (flatSuite xs) hs hown ad 1 cc (rowSuite p) hx rfl hp ?_ (by decide) (by unfold maxLen; omega) (by omega) hbase _ rfl ?_
  · intro u hu
    simp only [rowSuite, List.mem_cons, List.not_mem_nil, or_false] at hu
    rcases hu with rfl | rfl | rfl | rfl <;> rfl
  · intro g cap w' h1 h2 h3 h4
    have e1 : (xs ++ [p]).length = xs.length + 1 := by simp
    have e2 : flatSuite xs ++ rowSuite p = flatSuite (xs ++ [p]) := by rw [flatSuite_app]; simp [flatSuite]
    have h2' : w.grownBy w' (c.map Addr.block) := by cases c <;> exact h2
    refine h _ _ w' ?_ h2' (Hid.mk ⟨g, rfl, ?_, h4⟩)
    · unfold OwnSuite; rw [e1, ← e2]; exact h1
    · rcases h3 with h3 | h3
      · left; cases c with
        | none => cases h3
        | some b => exact ⟨b, rfl, by simpa [Value.ownBlock] using h3⟩
      · exact .inr h3

/-- One of marks. -/
def mSuite (p : Int) : Su := ⟨p, p + 1, p + 1 + 1, p + 1 + 1 + 1⟩

/-- Some of marks. -/
def marksSuite (q : Int) (n : Nat) : List Su := (List.range n).map fun (i : Nat) => mSuite (q + 4 * (i : Int))

theorem marksSuite_len (q : Int) (n : Nat) : (marksSuite q n).length = n := by simp [marksSuite]

theorem marksSuite_at (q : Int) (n k : Nat) (h : k < n) : (marksSuite q n).getD k zSuite = mSuite (q + 4 * (k : Int)) := by
  simp [marksSuite, List.getD, h]

/-- A row of which the first 'k' are marked. -/
def mfillSuite (q : Int) (k : Nat) (xs : List Su) : List Su := marksSuite q k ++ xs.drop k

theorem mfillSuite_zero (q : Int) (xs : List Su) : mfillSuite q 0 xs = xs := by simp [mfillSuite, marksSuite]

theorem mfillSuite_all (q : Int) (xs : List Su) (n : Nat) (h : xs.length = n) : mfillSuite q n xs = marksSuite q n := by simp [mfillSuite, ← h]

theorem mfillSuite_len (q : Int) (k : Nat) (xs : List Su) (n : Nat) (h : xs.length = n) (hk : k ≤ n) : (mfillSuite q k xs).length = n := by
  simp [mfillSuite, marksSuite_len]; omega

theorem mfillSuite_set (q : Int) (k : Nat) (xs : List Su) (h : k < xs.length) : (mfillSuite q k xs).set k (mSuite (q + 4 * (k : Int))) = mfillSuite q (k + 1) xs := by
  unfold mfillSuite
  rw [List.set_append_right _ _ (by rw [marksSuite_len]; exact Nat.le_refl _), marksSuite_len, Nat.sub_self, dropSuite xs k h, List.set_cons_zero]
  simp [marksSuite, List.range_succ]

theorem mfillSuite_at (q : Int) (k : Nat) (xs : List Su) : (mfillSuite q k xs).getD k zSuite = xs.getD k zSuite := by
  unfold mfillSuite
  simp only [List.getD]
  rw [List.getElem?_append_right (by rw [marksSuite_len]; exact Nat.le_refl _), marksSuite_len, Nat.sub_self, List.getElem?_drop, Nat.add_zero]


/-- One cell of one is another number. -/
def updSuite (x : Su) (j : Nat) (v : Int) : Su :=
  match j with
  | 0 => ⟨v, x.b, x.m, x.g⟩
  | 1 => ⟨x.c, v, x.m, x.g⟩
  | 2 => ⟨x.c, x.b, v, x.g⟩
  | 3 => ⟨x.c, x.b, x.m, v⟩
  | _ => x

theorem updSuite_row (x : Su) (j : Nat) (v : Int) (h : j < 4) : rowSuite (updSuite x j v) = (rowSuite x).set j (.int .i64 v) := by
  match j, h with
  | 0, _ => rfl
  | 1, _ => rfl
  | 2, _ => rfl
  | 3, _ => rfl

theorem flatSuite_set (xs : List Su) (k j : Nat) (hk : k < xs.length) (hj : j < 4) (v : Int) : (flatSuite xs).set (k * 4 + j) (.int .i64 v) = flatSuite (xs.set k (updSuite (xs.getD k zSuite) j v)) := by
  induction xs generalizing k with
  | nil => simp at hk
  | cons x xs ih =>
    cases k with
    | zero =>
      have e : (x :: xs).getD 0 zSuite = x := rfl
      rw [e, List.set_cons_zero, Nat.zero_mul, Nat.zero_add]
      simp only [flatSuite]
      rw [List.set_append_left _ _ (by rw [rowSuite_len]; exact hj), updSuite_row x j v hj]
    | succ k =>
      have e : (x :: xs).getD (k + 1) zSuite = xs.getD k zSuite := rfl
      rw [e, List.set_cons_succ]
      simp only [flatSuite]
      rw [List.set_append_right _ _ (by rw [rowSuite_len]; omega), rowSuite_len, show (k + 1) * 4 + j - 4 = k * 4 + j by omega, ih k (by simpa using hk)]

/-- One cell of a row of one's own is written. -/
theorem OwnSuite.poke {w : World} {base g : Nat} {cap : Nat} {xs : List Su} (h : OwnSuite w base (some ⟨g, 0, .none⟩) cap xs) (k j : Nat) (hk : k < xs.length) (hj : j < 4) (v : Int) :
    OwnSuite (w.setCell ⟨g, k * 4 + j, .none⟩ (.int .i64 v)) base (some ⟨g, 0, .none⟩) cap (xs.set k (updSuite (xs.getD k zSuite) j v)) := by
  unfold OwnSuite at *
  rw [List.length_set, ← flatSuite_set xs k j hk hj v]
  exact (World.ownsRow.stored h (k * 4 + j) (.int .i64 v)).1

theorem RdSuite.flat {w : World} {b off : Nat} {xs : List Su} (h : RdSuite w (some ⟨b, off, .none⟩) xs) : ∀ j u, (flatSuite xs)[j]? = some u → w.cell? ⟨b, off + j, .none⟩ = some u := by
  intro j u hu
  have hj : j < xs.length * 4 := by
    have := (List.getElem?_eq_some_iff.1 hu).1
    rwa [flatSuite_len] at this
  rcases h with h | ⟨b', off', h, hc⟩
  · subst h; simp at hj
  · simp only [Option.some.injEq, Addr.mk.injEq, and_true] at h
    obtain ⟨rfl, rfl⟩ := h
    have h1 : j / 4 < xs.length := by omega
    have h2 : j % 4 < 4 := Nat.mod_lt _ (by decide)
    have h3 := hc (j / 4) (j % 4) h1 h2
    rw [← flatSuite_at xs (j / 4) (j % 4) h1 h2, show j / 4 * 4 + j % 4 = j by omega, hu] at h3
    rw [← h3]
    congr 2
    omega

theorem flatSuite_one (xs : List Su) : ∀ u ∈ flatSuite xs, u.oneCell' = true := by
  induction xs with
  | nil => intro u hu; cases hu
  | cons x xs ih =>
    intro u hu
    simp only [flatSuite, List.mem_append] at hu
    rcases hu with hu | hu
    · simp only [rowSuite, List.mem_cons, List.not_mem_nil, or_false] at hu
      rcases hu with rfl | rfl | rfl | rfl <;> rfl
    · exact ih u hu

/-- All of a slice that is read are put behind the others of a row of one's own. -/
theorem wpList_putsSuite {ops : Array Oper} {rest : List Oper} {o : Oper} {a : Act} {Q : Exit → Act → World → Prop} (w : World) (hgd : o.guard = none) (s x : Operand)
    (ho : o.op = .call { callee := .builtin .append, args := #[s, x], argTypes := #[24, 24] })
    (base : Nat) (c : Option Addr) (d : Nat) (xs : List Su) (n : Nat) (hn : xs.length = n) (hs : a.eval s = .slice c n d) (hown : OwnSuite w base c d xs)
    (b off m cc : Nat) (ys : List Su) (hx : a.eval x = .slice (some ⟨b, off, .none⟩) m cc) (hr : RdSuite w (some ⟨b, off, .none⟩) ys) (hm : ys.length = m) (hm0 : 0 < m)
    (hlen : n + m ≤ 1000000) (hbase : base ≤ w.heap.size)
    (h : ∀ c' d' w', OwnSuite w' base c' d' (xs ++ ys) → w.grownBy w' (c.map Addr.block) → Hid (∃ g, c' = some ⟨g, 0, .none⟩ ∧ ((∃ a, c = some a ∧ a.block = g) ∨ g = w.heap.size) ∧ g < w'.heap.size) → wpList Try.prog ops Q rest (a.put o.dst (.slice c' (n + m) d')) w') : wpList Try.prog ops Q (o :: rest) a w := by
  subst hn
  subst hm
  obtain ⟨i, hi, hz, hsz, hby⟩ : ∃ i, Try.prog.info? 28 = some i ∧ i.zero = some (.agg #[.int .i64 0, .int .i64 0, .int .i64 0, .int .i64 0]) ∧ i.size = 4 ∧ i.bytes = 32 := by
    have h := Try.infoSuite
    cases he : Try.prog.info? 28 with
    | none => rw [he] at h; cases h
    | some i =>
      rw [he] at h
      simp only [Option.map_some, Option.some.injEq, Prod.mk.injEq] at h
      exact ⟨i, rfl, h.1, h.2.1, h.2.2⟩
  refine wpList_append_lies w hgd s x 24 ho base 28 i _ 4 32 Try.underlying24 hi hz hsz hby (by rfl) (by decide) (.slice c xs.length d) xs.length (flatSuite xs) hs hown ⟨b, off, .none⟩ ys.length cc (flatSuite ys) hx (flatSuite_len ys) (fun j u hu => ?_) (flatSuite_one ys) hm0 (by unfold maxLen; omega) (by omega) hbase _ rfl ?_
  · have h1 := hr.flat j u hu
    rw [Addr.add_mid]; exact h1
  · intro g cap w' h1 h2 h3 h4
    have e1 : (xs ++ ys).length = xs.length + ys.length := by simp
    have h2' : w.grownBy w' (c.map Addr.block) := by cases c <;> exact h2
    refine h _ _ w' ?_ h2' (Hid.mk ⟨g, rfl, ?_, h4⟩)
    · unfold OwnSuite; rw [e1, flatSuite_app]; exact h1
    · rcases h3 with h3 | h3
      · left; cases c with
        | none => cases h3
        | some b => exact ⟨b, rfl, by simpa [Value.ownBlock] using h3⟩
      · exact .inr h3

theorem OwnSuite.there {w : World} {base g : Nat} {cap : Nat} {xs : List Su} (h : OwnSuite w base (some ⟨g, 0, .none⟩) cap xs) (k : Nat) (hk : k < xs.length) : w.there g (k * 4) 4 := fun j hj => by
  refine ⟨?_, World.ownsRow.frozenAt h _⟩
  rw [World.ownsRow.cellAt h (k * 4 + j) (by omega), flatSuite_at xs k j hk hj, List.getElem?_eq_getElem (by rw [rowSuite_len]; exact hj)]; rfl

/-- One of a row of one's own is written whole, at one stroke. -/
theorem OwnSuite.stroke {w : World} {base g : Nat} {cap : Nat} {xs : List Su} (h : OwnSuite w base (some ⟨g, 0, .none⟩) cap xs) (k : Nat) (hk : k < xs.length) (y : Su) : OwnSuite (w.setCells g (k * 4) (rowSuite y)) base (some ⟨g, 0, .none⟩) cap (xs.set k y) := by
  have h1 := storedSuite h k y
  rw [setSuite_flat xs k y hk] at h1
  unfold OwnSuite
  rw [List.length_set]
  simpa only [rowSuite, World.setCells, Nat.add_assoc, Nat.reduceAdd] using h1

/-- Another box is filled. -/
theorem OwnSuite.apart {w : World} {base : Nat} {a : Option Addr} {cap : Nat} {xs : List Su} {B : Nat} (h : OwnSuite w base a cap xs) (hB : ∀ b : Addr, a = some b → b.block ≠ B) (o : Nat) (vs : List Value) : OwnSuite (w.setCells B o vs) base a cap xs := by
  induction vs generalizing w o with
  | nil => exact h
  | cons v vs ih => exact ih (w := w.setCell ⟨B, o, .none⟩ v) (h.away (p := ⟨B, o, .none⟩) hB v) (o + 1)

end Go.Proofs.Ythaaompkcomfcaa
