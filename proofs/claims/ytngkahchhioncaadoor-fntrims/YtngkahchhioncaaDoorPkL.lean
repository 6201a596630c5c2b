/- Slices of packets that a call makes, grows and reads. -/
import Derived.Test.YtngkahchhioncaaDoorSelH
import Derived.Test.YtngkahchhioncaaDoorSmpI
import Derived.Test.YtngkahchhioncaaDoorDrawK
import Derived.Deep.AppendLies
namespace Go.Proofs.YtngkahchhioncaaDoor
open Go.RowKit

/-- A packet's cells, in letters. -/
structure K7 where
  f : Int
  t : Int
  r : Int
  l : Int
  u : Int
  v : Int
  s : Option Addr
  m : Nat
  d : Nat

/-- The cells of a packet. -/
def rowK (p : K7) : List Value := [.int .i64 p.f, .int .i64 p.t, .int .i64 p.r, .int .i64 p.l, .int .i64 p.u, .int .i64 p.v, .slice p.s p.m p.d]

/-- A packet of noughts. -/
def z7 : K7 := ⟨0, 0, 0, 0, 0, 0, none, 0, 0⟩

/-- The cells of packets, one behind the other. -/
def flatK : List K7 → List Value
  | [] => []
  | x :: xs => rowK x ++ flatK xs

theorem rowK_len (x : K7) : (rowK x).length = 7 := rfl

theorem flatK_len (xs : List K7) : (flatK xs).length = xs.length * 7 := by
  induction xs with
  | nil => rfl
  | cons x xs ih => simp only [flatK, List.length_append, rowK_len, ih, List.length_cons]; omega

theorem flatK_app (xs ys : List K7) : flatK (xs ++ ys) = flatK xs ++ flatK ys := by
  induction xs with
  | nil => rfl
  | cons x xs ih => simp only [List.cons_append, flatK, ih, List.append_assoc]

theorem flatK_at (xs : List K7) (k j : Nat) (hk : k < xs.length) (hj : j < 7) : (flatK xs)[k * 7 + j]? = (rowK (xs.getD k z7))[j]? := by
  induction xs generalizing k with
  | nil => simp at hk
  | cons x xs ih =>
    cases k with
    | zero =>
      simp only [flatK, Nat.zero_mul, Nat.zero_add]
      rw [List.getElem?_append_left (by rw [rowK_len]; exact hj)]
      simp [List.getD]
    | succ k =>
      simp only [flatK]
      rw [List.getElem?_append_right (by rw [rowK_len]; omega), rowK_len, show (k + 1) * 7 + j - 7 = k * 7 + j by omega, ih k (by simpa using hk)]
      simp [List.getD]

/-- A slice of packets at address 'a' reads as 'xs' in 'w'. -/
def RdK (w : World) (a : Option Addr) (xs : List K7) : Prop :=
  xs = [] ∨ ∃ b off, a = some ⟨b, off, none⟩ ∧ ∀ i j, i < xs.length → j < 7 → w.cell? ⟨b, off + i * 7 + j, none⟩ = (rowK (xs.getD i z7))[j]?

/-- A slice of packets that is the call's own. -/
def OwnK (w : World) (base : Nat) (a : Option Addr) (cap : Nat) (xs : List K7) : Prop :=
  w.ownsRow base 26 7 (.slice a xs.length cap) xs.length (flatK xs)

theorem RdK.kept {w w' : World} {a : Option Addr} {xs : List K7} (h : RdK w a xs) (hb : Below w.heap.size w w') : RdK w' a xs := by
  rcases h with h | ⟨b, off, rfl, hc⟩
  · exact .inl h
  · refine .inr ⟨b, off, rfl, fun i j hi hj => ?_⟩
    have h1 := hc i j hi hj
    obtain ⟨v, hv⟩ : ∃ v, (rowK (xs.getD i z7))[j]? = some v := ⟨_, List.getElem?_eq_getElem (by rw [rowK_len]; exact hj)⟩
    rw [hv] at h1 ⊢
    exact (hb.cell (World.block_lt_of_cell? (a := ⟨b, off + i * 7 + j, none⟩) w h1)).trans h1

theorem OwnK.rd {w : World} {base : Nat} {a : Option Addr} {cap : Nat} {xs : List K7} (h : OwnK w base a cap xs) : RdK w a xs := by
  rcases h.2 with ⟨_, h0⟩ | ⟨g, cap', cur, hv, _⟩
  · exact .inl (List.eq_nil_of_length_eq_zero h0)
  · simp only [Value.slice.injEq, true_and] at hv
    obtain ⟨rfl, rfl⟩ := hv
    refine .inr ⟨g, 0, rfl, fun i j hi hj => ?_⟩
    rw [Nat.zero_add, World.ownsRow.cellAt h (i * 7 + j) (by omega), flatK_at xs i j hi hj]

theorem OwnK.lt {w : World} {base : Nat} {a : Option Addr} {cap : Nat} {xs : List K7} (h : OwnK w base a cap xs) : ∀ b, a = some b → base ≤ b.block ∧ b.block < w.heap.size := by
  intro b hb
  subst hb
  exact World.ownsRow.lt h b.block rfl

theorem OwnK.grown {w w' : World} {base : Nat} {a : Option Addr} {cap : Nat} {xs : List K7} {row : Option Nat} (h : OwnK w base a cap xs) (hg : w.grownBy w' row)
    (hne : ∀ b, a = some b → row ≠ some b.block) : OwnK w' base a cap xs := by
  refine World.ownsRow.kept h hg ?_
  cases a with
  | none => exact .inl rfl
  | some b => exact .inr fun e => hne b rfl e.symm

theorem OwnK.kept {w w' : World} {base : Nat} {a : Option Addr} {cap : Nat} {xs : List K7} (h : OwnK w base a cap xs) (hb : Below w.heap.size w w') : OwnK w' base a cap xs :=
  h.grown (Below.grownBy hb none) fun _ _ => by simp

theorem OwnK.mono {w : World} {base base' : Nat} {a : Option Addr} {cap : Nat} {xs : List K7} (h : OwnK w base a cap xs) (hb : base' ≤ base) : OwnK w base' a cap xs := by
  obtain ⟨h1, h2⟩ := h
  refine ⟨h1, ?_⟩
  rcases h2 with h2 | ⟨g, cap', cur, hv, hg, r⟩
  · exact .inl h2
  · exact .inr ⟨g, cap', cur, hv, by omega, r⟩

theorem OwnK.lit (w : World) (xs : List K7) (vs : List Value) (hv : vs = flatK xs) (hm : xs.length ≤ maxLen) : OwnK (w.alloc (.cells vs.toArray 26)) w.heap.size (some ⟨w.heap.size, 0, none⟩) xs.length xs := by
  subst hv
  have h := World.ownsRow_lit (base := w.heap.size) (e := 26) (size := 7) w (flatK xs).toArray xs.length (Nat.le_refl _) hm (by simp [flatK_len])
  simpa [OwnK] using h

theorem Tryd.info_pkt : (Tryd.prog.info? 26).map (fun i => (i.zero, i.size, i.bytes)) = some (some (.agg #[.int .i64 0, .int .i64 0, .int .i64 0, .int .i64 0, .int .i64 0, .int .i64 0, .slice none 0 0]), 7, 72) := by kernel_rfl

theorem RdK.seven {w : World} {b off : Nat} {xs : List K7} (hc : ∀ i j, i < xs.length → j < 7 → w.cell? ⟨b, off + i * 7 + j, none⟩ = (rowK (xs.getD i z7))[j]?) (k : Nat) (hk : k < xs.length) (p : K7) (hx : xs.getD k z7 = p) :
    w.cell? ⟨b, off + k * 7, none⟩ = some (.int .i64 p.f) ∧ w.cell? ⟨b, off + k * 7 + 1, none⟩ = some (.int .i64 p.t) ∧ w.cell? ⟨b, off + k * 7 + 2, none⟩ = some (.int .i64 p.r) ∧ w.cell? ⟨b, off + k * 7 + 3, none⟩ = some (.int .i64 p.l) ∧ w.cell? ⟨b, off + k * 7 + 4, none⟩ = some (.int .i64 p.u) ∧ w.cell? ⟨b, off + k * 7 + 5, none⟩ = some (.int .i64 p.v) ∧ w.cell? ⟨b, off + k * 7 + 6, none⟩ = some (.slice p.s p.m p.d) := by
  subst hx
  exact ⟨hc k 0 hk (by decide), hc k 1 hk (by decide), hc k 2 hk (by decide), hc k 3 hk (by decide), hc k 4 hk (by decide), hc k 5 hk (by decide), hc k 6 hk (by decide)⟩

theorem RdK.at {w : World} {b off : Nat} {xs : List K7} (h : RdK w (some ⟨b, off, none⟩) xs) (k : Nat) (hk : k < xs.length) (p : K7) (hx : xs.getD k z7 = p) :
    w.cell? ⟨b, off + k * 7, none⟩ = some (.int .i64 p.f) ∧ w.cell? ⟨b, off + k * 7 + 1, none⟩ = some (.int .i64 p.t) ∧ w.cell? ⟨b, off + k * 7 + 2, none⟩ = some (.int .i64 p.r) ∧ w.cell? ⟨b, off + k * 7 + 3, none⟩ = some (.int .i64 p.l) ∧ w.cell? ⟨b, off + k * 7 + 4, none⟩ = some (.int .i64 p.u) ∧ w.cell? ⟨b, off + k * 7 + 5, none⟩ = some (.int .i64 p.v) ∧ w.cell? ⟨b, off + k * 7 + 6, none⟩ = some (.slice p.s p.m p.d) := by
  rcases h with h | ⟨b', off', he, hc⟩
  · rw [h] at hk; simp at hk
  · simp only [Option.some.injEq, Addr.mk.injEq, and_true] at he
    obtain ⟨rfl, rfl⟩ := he
    exact RdK.seven hc k hk p hx

theorem getD_memK {xs : List K7} {k : Nat} (h : k < xs.length) : xs.getD k z7 ∈ xs := by
  rw [show xs.getD k z7 = xs[k] by simp [List.getD, h]]; exact List.getElem_mem _

/-- A packet is put behind the packets of a row of one's own. -/
theorem wpList_putK {ops : Array Oper} {rest : List Oper} {o : Oper} {a : Act} {Q : Exit → Act → World → Prop} (w : World) (hgd : o.guard = none) (s x : Operand)
    (ho : o.op = .call { callee := .builtin .append, args := #[s, x], argTypes := #[52, 52] })
    (base : Nat) (c : Option Addr) (d : Nat) (xs : List K7) (n : Nat) (hn : xs.length = n) (hs : a.eval s = .slice c n d) (hown : OwnK w base c d xs)
    (ad : Addr) (cc : Nat) (p : K7) (hx : a.eval x = .slice (some ad) 1 cc) (hp : ∀ j u, (rowK p)[j]? = some u → w.cell? (ad.add j) = some u)
    (hlen : n ≤ 1000) (hbase : base ≤ w.heap.size)
    (h : ∀ c' d' w', OwnK w' base c' d' (xs ++ [p]) → w.grownBy w' (c.map Addr.block) → Hid (∃ g, c' = some ⟨g, 0, none⟩ ∧ ((∃ a, c = some a ∧ a.block = g) ∨ g = w.heap.size) ∧ g < w'.heap.size) → wpList Tryd.prog ops Q rest (a.put o.dst (.slice c' (n + 1) d')) w') : wpList Tryd.prog ops Q (o :: rest) a w := by
  subst hn
  obtain ⟨i, hi, hz, hsz, hby⟩ : ∃ i, Tryd.prog.info? 26 = some i ∧ i.zero = some (.agg #[.int .i64 0, .int .i64 0, .int .i64 0, .int .i64 0, .int .i64 0, .int .i64 0, .slice none 0 0]) ∧ i.size = 7 ∧ i.bytes = 72 := by
    have h := Tryd.info_pkt
    cases he : Tryd.prog.info? 26 with
    | none => rw [he] at h; cases h
    | some i =>
      rw [he] at h
      simp only [Option.map_some, Option.some.injEq, Prod.mk.injEq] at h
      exact ⟨i, rfl, h.1, h.2.1, h.2.2⟩
  refine wpList_append_lies w hgd s x 52 ho base 26 i _ 7 72 Tryd.underlying52 hi hz hsz hby (by rfl) (by decide) (.slice c xs.length d) xs.length (flatK xs) hs hown ad 1 cc (rowK p) hx rfl hp ?_ (by decide) (by unfold maxLen; omega) (by omega) hbase _ rfl ?_
  · intro u hu
    simp only [rowK, List.mem_cons, List.not_mem_nil, or_false] at hu
    rcases hu with rfl | rfl | rfl | rfl | rfl | rfl | rfl <;> rfl
  · intro g cap w' h1 h2 h3 h4
    have e1 : (xs ++ [p]).length = xs.length + 1 := by simp
    have e2 : flatK xs ++ rowK p = flatK (xs ++ [p]) := by rw [flatK_app]; simp [flatK]
    have h2' : w.grownBy w' (c.map Addr.block) := by cases c <;> exact h2
    refine h _ _ w' ?_ h2' (Hid.mk ⟨g, rfl, ?_, h4⟩)
    · unfold OwnK; rw [e1, ← e2]; exact h1
    · rcases h3 with h3 | h3
      · left; cases c with
        | none => cases h3
        | some b => exact ⟨b, rfl, by simpa [Value.ownBlock] using h3⟩
      · exact .inr h3

/-- What a right selector's sample is. -/
theorem implSample_ok (x : S9) (hx : sfC x = 0) (r : Int) (hr : r = if x.r = 0 then 6 else x.r) (w : World) :
    Calls Tryd.prog 25 #[.agg #[.int .i64 x.a, .int .i64 x.b, .int .i64 x.c, .int .i64 x.d, .int .i64 x.e, .int .i64 x.f, .int .i64 x.g, .int .i64 x.h, .int .i64 x.r]] w fun e w' => e = .returned (.agg #[.int .i64 0, .int .i64 x.a, .int .i64 x.c, .int .i64 r, .int .i64 64, .int .i64 x.e, .int .i64 x.g, .slice none 0 0]) ∧ Below w.heap.size w w' := by
  subst hr
  by_cases h1 : x.r = 0
  · rw [if_pos h1]; exact implSmp1 x w hx (by simp [h1])
  · rw [if_neg h1]; exact implSmp2 x w hx (by simp [h1])

end Go.Proofs.YtngkahchhioncaaDoor
