/- Plain facts on slices of numbers that a call reads, makes and writes. No program of the project stands here. -/
import Derived.WalkKit
import Derived.Deep.QuietTactic
import Derived.BigQuiet
import Derived.WalkSmall
namespace Go.Proofs.YthjaehcfakjemaaDoor
open Go.RowKit

/-- The slice at address 'a' reads as the numbers 'zs' in 'w'. -/
def Rd (k : IntKind) (w : World) (a : Option Addr) (zs : List Int) : Prop :=
  zs = [] ∨ ∃ b off, a = some ⟨b, off, none⟩ ∧ ∀ i, i < zs.length → w.cell? ⟨b, off + i, none⟩ = some (.int k (zs.getD i 0))

/-- Each number fits a byte. -/
def Bytes (zs : List Int) : Prop := ∀ z ∈ zs, 0 ≤ z ∧ z < 256

/-- The slice is the call's own: its row begins at block 'base' or behind it. -/
def Own (k : IntKind) (e : TypeId) (w : World) (base : Nat) (a : Option Addr) (cap : Nat) (zs : List Int) : Prop :=
  w.ownsRow base e 1 (.slice a zs.length cap) zs.length (zs.map (Value.int k))

theorem Bytes.at {zs : List Int} (h : Bytes zs) (i : Nat) : 0 ≤ zs.getD i 0 ∧ zs.getD i 0 < 256 := by
  by_cases hi : i < zs.length
  · have := h zs[i] (List.getElem_mem hi)
    simpa [List.getD, hi] using this
  · simp [List.getD, List.getElem?_eq_none (Nat.le_of_not_lt hi)]

theorem Bytes.at' {zs : List Int} (h : Bytes zs) (i : Nat) : 0 ≤ zs[i]?.getD 0 ∧ zs[i]?.getD 0 < 256 := by
  simpa [List.getD] using h.at i

theorem Rd.kept {k : IntKind} {w w' : World} {a : Option Addr} {zs : List Int} (h : Rd k w a zs) (hb : Below w.heap.size w w') : Rd k w' a zs := by
  rcases h with h | ⟨b, off, rfl, hc⟩
  · exact .inl h
  · refine .inr ⟨b, off, rfl, fun i hi => ?_⟩
    have h1 := hc i hi
    exact (hb.cell (World.block_lt_of_cell? (a := ⟨b, off + i, none⟩) w h1)).trans h1

theorem Rd.nil {k : IntKind} {w : World} {a : Option Addr} : Rd k w a [] := .inl rfl

theorem Own.rd {k : IntKind} {e : TypeId} {w : World} {base : Nat} {a : Option Addr} {cap : Nat} {zs : List Int} (h : Own k e w base a cap zs) : Rd k w a zs := by
  have h2 := h.2
  rcases h2 with ⟨_, h0⟩ | ⟨g, cap', cur, hv, _⟩
  · exact .inl (List.eq_nil_of_length_eq_zero h0)
  · simp only [Value.slice.injEq, true_and] at hv
    obtain ⟨rfl, rfl⟩ := hv
    refine .inr ⟨g, 0, rfl, fun i hi => ?_⟩
    rw [Nat.zero_add, World.ownsRow.cellAt h i (by simpa using hi)]
    simp [List.getD, hi]

theorem Own.lt {k : IntKind} {e : TypeId} {w : World} {base : Nat} {a : Option Addr} {cap : Nat} {zs : List Int} (h : Own k e w base a cap zs) : ∀ b, a = some b → base ≤ b.block ∧ b.block < w.heap.size := by
  intro b hb
  subst hb
  exact World.ownsRow.lt h b.block rfl

theorem Own.grown {k : IntKind} {e : TypeId} {w w' : World} {base : Nat} {a : Option Addr} {cap : Nat} {zs : List Int} {row : Option Nat} (h : Own k e w base a cap zs) (hg : w.grownBy w' row)
    (hne : ∀ b, a = some b → row ≠ some b.block) : Own k e w' base a cap zs := by
  refine World.ownsRow.kept h hg ?_
  cases a with
  | none => exact .inl rfl
  | some b => exact .inr fun e => hne b rfl e.symm

theorem Below.grownBy {w w' : World} (h : Below w.heap.size w w') (row : Option Nat) : w.grownBy w' row :=
  ⟨h.os, h.tape, h.output, h.size, fun k hk _ => h.block k hk⟩

theorem Own.kept {k : IntKind} {e : TypeId} {w w' : World} {base : Nat} {a : Option Addr} {cap : Nat} {zs : List Int} (h : Own k e w base a cap zs) (hb : Below w.heap.size w w') : Own k e w' base a cap zs :=
  h.grown (Below.grownBy hb none) fun _ _ => by simp

theorem Own.mono {k : IntKind} {e : TypeId} {w : World} {base base' : Nat} {a : Option Addr} {cap : Nat} {zs : List Int} (h : Own k e w base a cap zs) (hb : base' ≤ base) : Own k e w base' a cap zs := by
  obtain ⟨h1, h2⟩ := h
  refine ⟨h1, ?_⟩
  rcases h2 with h2 | ⟨g, cap', cur, hv, hg, r⟩
  · exact .inl h2
  · exact .inr ⟨g, cap', cur, hv, by omega, r⟩

/-- What a 'Below' keeps, as two rules for the walk. -/
theorem bcell {W w1 : World} (hb : Below W.heap.size W w1) : (∀ b o, b < W.heap.size → w1.cell? ⟨b, o, none⟩ = W.cell? ⟨b, o, none⟩) ∧ (∀ b o, b < W.heap.size → w1.frozen? ⟨b, o, none⟩ = W.frozen? ⟨b, o, none⟩) :=
  ⟨fun b o h => hb.cell (p := ⟨b, o, none⟩) h, fun b o h => hb.frozen (p := ⟨b, o, none⟩) h⟩

theorem belowN {B : Nat} {a w : World} (h : Below B a w) (n : Nat) : Below B a (w.drewN n) := h.trans ⟨rfl, rfl, rfl, Nat.le_refl _, fun _ _ => rfl⟩

theorem ret_int {k : IntKind} {a b : Int} (h : a = b) : Ending.returned (.int k a) = .returned (.int k b) := by rw [h]

theorem take_snoc (zs : List Int) (k : Nat) (h : k < zs.length) : zs.take (k + 1) = zs.take k ++ [zs.getD k 0] := by
  rw [List.take_add_one]
  simp [List.getD, h]


theorem Hid.mk {p : Prop} (h : p) : Hid p := h

/-- A row of 'n' numbers of which the first 'k' are written. -/
def fill (xs : List Int) (k n : Nat) : List Int := xs.take k ++ List.replicate (n - k) 0

theorem fill_zero (xs : List Int) (n : Nat) : fill xs 0 n = List.replicate n 0 := by simp [fill]

theorem fill_all (xs : List Int) (n : Nat) (h : xs.length = n) : fill xs n n = xs := by simp [fill, ← h]

theorem length_fill (xs : List Int) (k n : Nat) (h : xs.length = n) (hk : k ≤ n) : (fill xs k n).length = n := by
  simp [fill]; omega

theorem fill_set (xs : List Int) (k n : Nat) (h : xs.length = n) (hk : k < n) : (fill xs k n).set k (xs.getD k 0) = fill xs (k + 1) n := by
  unfold fill
  rw [take_snoc xs k (by omega), List.set_append_right _ _ (by simp; omega)]
  have hlen : (xs.take k).length = k := by simp; omega
  rw [hlen, Nat.sub_self]
  obtain ⟨m, hm⟩ : ∃ m, n - k = m + 1 := ⟨n - k - 1, by omega⟩
  rw [hm, show n - (k + 1) = m from by omega]
  simp [List.replicate_succ]

theorem set_map (k : IntKind) (l : List Int) (j : Nat) (x : Int) : (l.map (Value.int k)).set j (.int k x) = (l.set j x).map (Value.int k) := by
  rw [List.map_set]

theorem getD_eq (xs : List Int) (k : Nat) (h : k < xs.length) : xs.getD k 0 = xs[k] := by simp [List.getD, h]

/-- A new block turns nothing old. -/
theorem belowA (w : World) (o : Obj) : Below w.heap.size w (w.alloc o) := (Below.refl _ _).alloc (Nat.le_refl _) o

theorem or256 (x z : Int) (h1 : 0 ≤ x) (h2 : x < 72057594037927936) (h3 : 0 ≤ z) (h4 : z < 256) : bits .or .u64 (x * 256) z = x * 256 + z := by
  rw [u64_or _ _ (by omega) (by omega) h3 (by omega)]
  obtain ⟨a, rfl⟩ := Int.eq_ofNat_of_zero_le h1
  obtain ⟨b, rfl⟩ := Int.eq_ofNat_of_zero_le h3
  have e : ((a : Int) * 256).toNat = 2 ^ 8 * a := by omega
  rw [e, Int.toNat_natCast, ← Nat.two_pow_add_eq_or_of_lt (by omega : b < 2 ^ 8)]
  omega

theorem Own.cap {k : IntKind} {e : TypeId} {w : World} {base : Nat} {a : Option Addr} {cap : Nat} {zs : List Int} (h : Own k e w base a cap zs) : zs.length ≤ cap := by
  rcases h.2 with ⟨_, h0⟩ | ⟨g, cap', cur, hv, _, _, hc, _⟩
  · omega
  · simp only [Value.slice.injEq] at hv
    obtain ⟨_, _, rfl⟩ := hv
    exact hc

theorem belowA2 (w : World) (o1 o2 : Obj) : Below w.heap.size w ((w.alloc o1).alloc o2) := (belowA w o1).alloc (by simp) o2
theorem belowA3 (w : World) (o1 o2 o3 : Obj) : Below w.heap.size w (((w.alloc o1).alloc o2).alloc o3) := (belowA2 w o1 o2).alloc (by simp; omega) o3

/-- One 'Below' behind the other, each from its own start on. -/
theorem thenB {w w1 w2 : World} (h : Below w.heap.size w w1) (k : Below w1.heap.size w1 w2) : Below w.heap.size w w2 := h.trans (k.mono h.size)

/-- What the row's frame tells of a slice of numbers that came in, in this file's words. -/
theorem rowRd {k : IntKind} {w : World} {a : Option Addr} {len cap : Nat} {zs : List Int}
    (h : (a = none ∧ len = 0 ∧ cap = 0 ∧ zs = []) ∨ ∃ x : Addr, a = some x ∧ len ≤ cap ∧ cap ≤ maxLen ∧ zs.length = cap ∧ (∀ i, i < zs.length → w.cell? (x.add i) = some (.int k (zs.getD i 0))) ∧ ∀ n ∈ zs, (Lit.int k n).wf = true) :
    Rd k w a (zs.take len) ∧ (zs.take len).length = len ∧ len ≤ cap ∧ cap ≤ maxLen ∧ ∀ n ∈ zs.take len, (Lit.int k n).wf = true := by
  rcases h with ⟨rfl, rfl, rfl, rfl⟩ | ⟨x, rfl, hl, hm, hz, hcell, hwz⟩
  · exact ⟨.inl rfl, rfl, Nat.le_refl _, Nat.zero_le _, by simp⟩
  · have hlen : (zs.take len).length = len := by simp; omega
    refine ⟨?_, hlen, hl, hm, fun n hn => hwz n (List.mem_of_mem_take hn)⟩
    by_cases h0 : len = 0
    · subst h0; exact .inl rfl
    · obtain ⟨b, off, spot⟩ := x
      have hc := hcell 0 (by omega)
      have hspot : spot = none := by simpa [Addr.add] using World.cell?_spot hc
      subst hspot
      refine .inr ⟨b, off, rfl, fun i hi => ?_⟩
      have h1 := hcell i (by omega)
      rw [Addr.add_lit] at h1
      rw [h1]
      simp [List.getD, show i < len by omega]

theorem wfBytes {zs : List Int} (h : ∀ n ∈ zs, (Lit.int .u8 n).wf = true) : Bytes zs := by
  intro z hz
  have h1 := h z hz
  simp only [Lit.wf, Bool.and_eq_true, decide_eq_true_iff] at h1
  have e1 : IntKind.u8.min = 0 := by rfl
  have e2 : IntKind.u8.max = 255 := by rfl
  rw [e1, e2] at h1
  omega

theorem wfI64 {z : Int} (h : (Lit.int .i64 z).wf = true) : -9223372036854775808 ≤ z ∧ z ≤ 9223372036854775807 := by
  simp only [Lit.wf, Bool.and_eq_true, decide_eq_true_iff] at h
  have e1 : IntKind.i64.min = -9223372036854775808 := by rfl
  have e2 : IntKind.i64.max = 9223372036854775807 := by rfl
  rw [e1, e2] at h
  exact h

theorem ownsRow_shape {w : World} {base : Nat} {e : TypeId} {size : Nat} {v : Value} {n : Nat} {xs : List Value} (h : w.ownsRow base e size v n xs) : ∃ c d, v = .slice c n d := by
  rcases h.2 with ⟨rfl, rfl⟩ | ⟨g, cap, cur, rfl, _⟩
  · exact ⟨_, _, rfl⟩
  · exact ⟨_, _, rfl⟩

/-- Behind one append of one number to a row of the call's own: what is owned, and what is kept. -/
theorem appended {w wr w1 : World} {base : Nat} {e : TypeId} {k : IntKind} {v v' : Value} {j : Nat} {l : List Int} {z : Int} {o : Obj} (hown : wr.ownsRow base e 1 v j (l.map (Value.int k))) (hb : Below base w wr) (hbase : base ≤ wr.heap.size)
    (hown' : w1.ownsRow base e 1 v' (j + 1) (l.map (Value.int k) ++ [.int k z])) (hg : (wr.alloc o).grownBy w1 v.ownBlock) :
    w1.ownsRow base e 1 v' (j + 1) ((l ++ [z]).map (Value.int k)) ∧ Below base w w1 := by
  refine ⟨by simpa using hown', (hb.alloc hbase o).grown hg (by simp; omega) fun i hi => (hown.lt i hi).1⟩

theorem Own.below {k : IntKind} {e : TypeId} {w : World} {base : Nat} {a : Option Addr} {cap : Nat} {zs : List Int} (h : Own k e w base a cap zs) {p : Addr} (hp : p.block < base) (u : Value) : Own k e (w.setCell p u) base a cap zs :=
  ownsRow_setCell_below h hp u

theorem cell_one' (w : World) (e : TypeId) (v : Value) : ∀ j u, ([v] : List Value)[j]? = some u → (w.alloc (.cells #[v] e)).cell? ((⟨w.heap.size, 0, none⟩ : Addr).add j) = some u := by
  intro j u hj
  match j, hj with
  | 0, hj =>
    simp at hj
    subst hj
    rw [Addr.add_lit, World.cell?_alloc_at _ _ _ _ rfl]
    rfl

theorem own_none {k : IntKind} {e : TypeId} {w : World} {base : Nat} : Own k e w base none 0 [] := World.ownsRow_nil _ _ _ _

/-- A variable of the call's own, at block B: the cells that it holds. -/
def At (w : World) (B : Nat) (vs : List Value) : Prop := B < w.heap.size ∧ ∀ i v, vs[i]? = some v → w.cell? ⟨B, i, none⟩ = some v

theorem At.kept {w w' : World} {B : Nat} {vs : List Value} (h : At w B vs) (hb : Below w.heap.size w w') : At w' B vs :=
  ⟨Nat.lt_of_lt_of_le h.1 hb.size, fun i v hi => (hb.cell (p := ⟨B, i, none⟩) h.1).trans (h.2 i v hi)⟩

theorem At.grown {w w' : World} {B : Nat} {vs : List Value} {row : Option Nat} (h : At w B vs) (hg : w.grownBy w' row) (hne : row ≠ some B) : At w' B vs :=
  ⟨Nat.lt_of_lt_of_le h.1 hg.size, fun i v hi => hg.cell (h.2 i v hi) fun e => hne e.symm⟩

theorem At.new2 (w : World) (u v : Value) (e : TypeId) : At (w.alloc (.cells #[u, v] e)) w.heap.size [u, v] := by
  refine ⟨by simp, fun i x hi => ?_⟩
  rw [World.cell?_alloc_at _ _ _ _ rfl]
  match i, hi with
  | 0, hi => simpa using hi
  | 1, hi => simpa using hi

theorem At.two {w : World} {B : Nat} {u v : Value} (h : At w B [u, v]) : w.cell? ⟨B, 0, none⟩ = some u ∧ w.cell? ⟨B, 1, none⟩ = some v ∧ B < w.heap.size :=
  ⟨h.2 0 u rfl, h.2 1 v rfl, h.1⟩

/-- The block of a slice of the call's own is another than B. -/
theorem row_ne {a : Option Addr} {B : Nat} (h : ∀ b, a = some b → b.block ≠ B) : a.map Addr.block ≠ some B := by
  cases a with
  | none => simp
  | some b => simpa using h b rfl

theorem belowG {B : Nat} {a w w' : World} {c : Option Addr} (h : Below B a w) (hg : w.grownBy w' (c.map Addr.block)) (hB : B ≤ w.heap.size) (hc : ∀ b, c = some b → B ≤ b.block) : Below B a w' :=
  h.grown hg hB fun k hk => by
    cases c with
    | none => cases hk
    | some b => simp at hk; subst hk; exact hc b rfl

/-- 'wpList_append_own' at an operation whose guard says yes. -/
theorem wpListG_append_own {P : Program} (w : World) {ops : Array Oper} {rest : List Oper} {o : Oper} {a : Act} {Q : Exit → Act → World → Prop} (hw : Region.wanted o (yielded ops a.tmps) = true) (s x : Operand) (t : TypeId)
    (ho : o.op = .call { callee := .builtin .append, args := #[s, x], argTypes := #[t, t] })
    (base : Nat) (e : TypeId) (i : TypeInfo) (z : Value) (size bytes : Nat) (ht : P.underlying t = some (.slice e)) (hi : P.info? e = some i) (hz : i.zero = some z)
    (hsize : i.size = size) (hby : i.bytes = bytes) (hzs : z.cells.size = size) (hsz : 0 < size)
    (v : Value) (n : Nat) (xs : List Value) (hs : a.eval s = v) (hown : w.ownsRow base e size v n xs)
    (ad : Addr) (m c : Nat) (news : List Value) (hx : a.eval x = .slice (some ad) m c) (hl : news.length = m * size) (hnews : ∀ j u, news[j]? = some u → w.cell? (ad.add j) = some u) (h1 : ∀ u ∈ news, u.oneCell' = true)
    (h63 : n + m ≤ maxLen) (hbytes : (n + m) * bytes ≤ 140737488355328) (hbase : base ≤ w.heap.size)
    (h : ∀ v' w', w'.ownsRow base e size v' (n + m) (xs ++ news) → w.grownBy w' v.ownBlock → (v' = .slice none 0 0 ↔ v = .slice none 0 0 ∧ m = 0) → wpList P ops Q rest (a.put o.dst v') w') : wpList P ops Q (o :: rest) a w :=
  wpList_step fun _ hK => by
    rw [if_pos hw]
    exact wp_append_own w s x t ho base e i z size bytes ht hi hz hsize hby hzs hsz v n xs hs hown ad m c news hx hl hnews h1 h63 hbytes hbase fun v' w' h2 h3 h4 => hK _ _ (h v' w' h2 h3 h4)

theorem ret_bool {a b : Bool} (h : a = b) : Ending.returned (.bool a) = .returned (.bool b) := by rw [h]

theorem eq_miss {xs ys : List Int} {k : Nat} {h1 : k < xs.length} {h2 : k < ys.length} (h : (xs[k] != ys[k]) = true) : decide (xs = ys) = false := by
  rw [decide_eq_false_iff_not]
  rintro rfl
  simp at h

theorem take_next {xs ys : List Int} {k : Nat} {h1 : k < xs.length} {h2 : k < ys.length} (h : xs.take k = ys.take k) (h' : (xs[k] != ys[k]) = false) : xs.take (k + 1) = ys.take (k + 1) := by
  rw [take_snoc xs k h1, take_snoc ys k h2, h]
  simp at h'
  simp [List.getD, h1, h2, h']

theorem eq_all {xs ys : List Int} {k : Nat} (h : xs.take k = ys.take k) (h1 : xs.length = k) (h2 : ys.length = k) : decide (xs = ys) = true := by
  rw [List.take_of_length_le (by omega), List.take_of_length_le (by omega)] at h
  simp [h]

end Go.Proofs.YthjaehcfakjemaaDoor
