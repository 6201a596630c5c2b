/- Put together: PkL, App, Row, PktH, DPol, DSel3, DPol2, XSmp, DPol3. -/
import Derived.Test.YtngkahchhioncaaDoorSelH
import Derived.Test.YtngkahchhioncaaDoorSmpI
import Derived.Test.YtngkahchhioncaaDoorDrawK
import Derived.Deep.AppendLies
import Derived.Test.YtngkahchhioncaaDoorBase
import Derived.Laws.AppendOwnNone
import Derived.Test.YtngkahchhioncaaDoorVar
import Derived.Laws.CopyOwn
import Derived.Test.YtngkahchhioncaaDoorPkt
import Derived.Test.YtngkahchhioncaaDoorDSel2
import Derived.Test.YtngkahchhioncaaDoorRuleA
import Derived.Test.YtngkahchhioncaaDoorDrawL
import Derived.Test.YtngkahchhioncaaDoorFill
import Derived.BigRegion
import Derived.Test.YtngkahchhioncaaDoorSelG

/- Slices of packets that a call makes, grows and reads. -/
namespace Go.Proofs.YtngkahchhioncaaDoor
open Go.RowKit

/-- A packet's cells, in letters. -/
structure K7 where
  f : Int
  t : Int
  r : Int
  l : Int
  u : Int
  v : Int
  s : Option Addr
  m : Nat
  d : Nat

/-- The cells of a packet. -/
def rowK (p : K7) : List Value := [.int .i64 p.f, .int .i64 p.t, .int .i64 p.r, .int .i64 p.l, .int .i64 p.u, .int .i64 p.v, .slice p.s p.m p.d]

/-- A packet of noughts. -/
def z7 : K7 := ⟨0, 0, 0, 0, 0, 0, none, 0, 0⟩

/-- The cells of packets, one behind the other. -/
def flatK : List K7 → List Value
  | [] => []
  | x :: xs => rowK x ++ flatK xs

theorem rowK_len (x : K7) : (rowK x).length = 7 := rfl

theorem flatK_len (xs : List K7) : (flatK xs).length = xs.length * 7 := by
  induction xs with
  | nil => rfl
  | cons x xs ih => simp only [flatK, List.length_append, rowK_len, ih, List.length_cons]; omega

theorem flatK_app (xs ys : List K7) : flatK (xs ++ ys) = flatK xs ++ flatK ys := by
  induction xs with
  | nil => rfl
  | cons x xs ih => simp only [List.cons_append, flatK, ih, List.append_assoc]

theorem flatK_at (xs : List K7) (k j : Nat) (hk : k < xs.length) (hj : j < 7) : (flatK xs)[k * 7 + j]? = (rowK (xs.getD k z7))[j]? := by
  induction xs generalizing k with
  | nil => simp at hk
  | cons x xs ih =>
    cases k with
    | zero =>
      simp only [flatK, Nat.zero_mul, Nat.zero_add]
      rw [List.getElem?_append_left (by rw [rowK_len]; exact hj)]
      simp [List.getD]
    | succ k =>
      simp only [flatK]
      rw [List.getElem?_append_right (by rw [rowK_len]; omega), rowK_len, show (k + 1) * 7 + j - 7 = k * 7 + j by omega, ih k (by simpa using hk)]
      simp [List.getD]

/-- A slice of packets at address 'a' reads as 'xs' in 'w'. -/
def RdK (w : World) (a : Option Addr) (xs : List K7) : Prop :=
  xs = [] ∨ ∃ b off, a = some ⟨b, off, none⟩ ∧ ∀ i j, i < xs.length → j < 7 → w.cell? ⟨b, off + i * 7 + j, none⟩ = (rowK (xs.getD i z7))[j]?

/-- A slice of packets that is the call's own. -/
def OwnK (w : World) (base : Nat) (a : Option Addr) (cap : Nat) (xs : List K7) : Prop :=
  w.ownsRow base 26 7 (.slice a xs.length cap) xs.length (flatK xs)

theorem RdK.kept {w w' : World} {a : Option Addr} {xs : List K7} (h : RdK w a xs) (hb : Below w.heap.size w w') : RdK w' a xs := by
  rcases h with h | ⟨b, off, rfl, hc⟩
  · exact .inl h
  · refine .inr ⟨b, off, rfl, fun i j hi hj => ?_⟩
    have h1 := hc i j hi hj
    obtain ⟨v, hv⟩ : ∃ v, (rowK (xs.getD i z7))[j]? = some v := ⟨_, List.getElem?_eq_getElem (by rw [rowK_len]; exact hj)⟩
    rw [hv] at h1 ⊢
    exact (hb.cell (World.block_lt_of_cell? (a := ⟨b, off + i * 7 + j, none⟩) w h1)).trans h1

theorem OwnK.rd {w : World} {base : Nat} {a : Option Addr} {cap : Nat} {xs : List K7} (h : OwnK w base a cap xs) : RdK w a xs := by
  rcases h.2 with ⟨_, h0⟩ | ⟨g, cap', cur, hv, _⟩
  · exact .inl (List.eq_nil_of_length_eq_zero h0)
  · simp only [Value.slice.injEq, true_and] at hv
    obtain ⟨rfl, rfl⟩ := hv
    refine .inr ⟨g, 0, rfl, fun i j hi hj => ?_⟩
    rw [Nat.zero_add, World.ownsRow.cellAt h (i * 7 + j) (by omega), flatK_at xs i j hi hj]

theorem OwnK.lt {w : World} {base : Nat} {a : Option Addr} {cap : Nat} {xs : List K7} (h : OwnK w base a cap xs) : ∀ b, a = some b → base ≤ b.block ∧ b.block < w.heap.size := by
  intro b hb
  subst hb
  exact World.ownsRow.lt h b.block rfl

theorem OwnK.grown {w w' : World} {base : Nat} {a : Option Addr} {cap : Nat} {xs : List K7} {row : Option Nat} (h : OwnK w base a cap xs) (hg : w.grownBy w' row)
    (hne : ∀ b, a = some b → row ≠ some b.block) : OwnK w' base a cap xs := by
  refine World.ownsRow.kept h hg ?_
  cases a with
  | none => exact .inl rfl
  | some b => exact .inr fun e => hne b rfl e.symm

theorem OwnK.kept {w w' : World} {base : Nat} {a : Option Addr} {cap : Nat} {xs : List K7} (h : OwnK w base a cap xs) (hb : Below w.heap.size w w') : OwnK w' base a cap xs :=
  h.grown (Below.grownBy hb none) fun _ _ => by simp

theorem OwnK.mono {w : World} {base base' : Nat} {a : Option Addr} {cap : Nat} {xs : List K7} (h : OwnK w base a cap xs) (hb : base' ≤ base) : OwnK w base' a cap xs := by
  obtain ⟨h1, h2⟩ := h
  refine ⟨h1, ?_⟩
  rcases h2 with h2 | ⟨g, cap', cur, hv, hg, r⟩
  · exact .inl h2
  · exact .inr ⟨g, cap', cur, hv, by omega, r⟩

theorem OwnK.lit (w : World) (xs : List K7) (vs : List Value) (hv : vs = flatK xs) (hm : xs.length ≤ maxLen) : OwnK (w.alloc (.cells vs.toArray 26)) w.heap.size (some ⟨w.heap.size, 0, none⟩) xs.length xs := by
  subst hv
  have h := World.ownsRow_lit (base := w.heap.size) (e := 26) (size := 7) w (flatK xs).toArray xs.length (Nat.le_refl _) hm (by simp [flatK_len])
  simpa [OwnK] using h

theorem Tryd.info_pkt : (Tryd.prog.info? 26).map (fun i => (i.zero, i.size, i.bytes)) = some (some (.agg #[.int .i64 0, .int .i64 0, .int .i64 0, .int .i64 0, .int .i64 0, .int .i64 0, .slice none 0 0]), 7, 72) := by kernel_rfl

theorem RdK.seven {w : World} {b off : Nat} {xs : List K7} (hc : ∀ i j, i < xs.length → j < 7 → w.cell? ⟨b, off + i * 7 + j, none⟩ = (rowK (xs.getD i z7))[j]?) (k : Nat) (hk : k < xs.length) (p : K7) (hx : xs.getD k z7 = p) :
    w.cell? ⟨b, off + k * 7, none⟩ = some (.int .i64 p.f) ∧ w.cell? ⟨b, off + k * 7 + 1, none⟩ = some (.int .i64 p.t) ∧ w.cell? ⟨b, off + k * 7 + 2, none⟩ = some (.int .i64 p.r) ∧ w.cell? ⟨b, off + k * 7 + 3, none⟩ = some (.int .i64 p.l) ∧ w.cell? ⟨b, off + k * 7 + 4, none⟩ = some (.int .i64 p.u) ∧ w.cell? ⟨b, off + k * 7 + 5, none⟩ = some (.int .i64 p.v) ∧ w.cell? ⟨b, off + k * 7 + 6, none⟩ = some (.slice p.s p.m p.d) := by
  subst hx
  exact ⟨hc k 0 hk (by decide), hc k 1 hk (by decide), hc k 2 hk (by decide), hc k 3 hk (by decide), hc k 4 hk (by decide), hc k 5 hk (by decide), hc k 6 hk (by decide)⟩

theorem RdK.at {w : World} {b off : Nat} {xs : List K7} (h : RdK w (some ⟨b, off, none⟩) xs) (k : Nat) (hk : k < xs.length) (p : K7) (hx : xs.getD k z7 = p) :
    w.cell? ⟨b, off + k * 7, none⟩ = some (.int .i64 p.f) ∧ w.cell? ⟨b, off + k * 7 + 1, none⟩ = some (.int .i64 p.t) ∧ w.cell? ⟨b, off + k * 7 + 2, none⟩ = some (.int .i64 p.r) ∧ w.cell? ⟨b, off + k * 7 + 3, none⟩ = some (.int .i64 p.l) ∧ w.cell? ⟨b, off + k * 7 + 4, none⟩ = some (.int .i64 p.u) ∧ w.cell? ⟨b, off + k * 7 + 5, none⟩ = some (.int .i64 p.v) ∧ w.cell? ⟨b, off + k * 7 + 6, none⟩ = some (.slice p.s p.m p.d) := by
  rcases h with h | ⟨b', off', he, hc⟩
  · rw [h] at hk; simp at hk
  · simp only [Option.some.injEq, Addr.mk.injEq, and_true] at he
    obtain ⟨rfl, rfl⟩ := he
    exact RdK.seven hc k hk p hx

theorem getD_memK {xs : List K7} {k : Nat} (h : k < xs.length) : xs.getD k z7 ∈ xs := by
  rw [show xs.getD k z7 = xs[k] by simp [List.getD, h]]; exact List.getElem_mem _

/-- A packet is put behind the packets of a row of one's own. -/
theorem wpList_putK {ops : Array Oper} {rest : List Oper} {o : Oper} {a : Act} {Q : Exit → Act → World → Prop} (w : World) (hgd : o.guard = none) (s x : Operand)
    (ho : o.op = .call { callee := .builtin .append, args := #[s, x], argTypes := #[52, 52] })
    (base : Nat) (c : Option Addr) (d : Nat) (xs : List K7) (n : Nat) (hn : xs.length = n) (hs : a.eval s = .slice c n d) (hown : OwnK w base c d xs)
    (ad : Addr) (cc : Nat) (p : K7) (hx : a.eval x = .slice (some ad) 1 cc) (hp : ∀ j u, (rowK p)[j]? = some u → w.cell? (ad.add j) = some u)
    (hlen : n ≤ 1000) (hbase : base ≤ w.heap.size)
    (h : ∀ c' d' w', OwnK w' base c' d' (xs ++ [p]) → w.grownBy w' (c.map Addr.block) → Hid (∃ g, c' = some ⟨g, 0, none⟩ ∧ ((∃ a, c = some a ∧ a.block = g) ∨ g = w.heap.size) ∧ g < w'.heap.size) → wpList Tryd.prog ops Q rest (a.put o.dst (.slice c' (n + 1) d')) w') : wpList Tryd.prog ops Q (o :: rest) a w := by
  subst hn
  obtain ⟨i, hi, hz, hsz, hby⟩ : ∃ i, Tryd.prog.info? 26 = some i ∧ i.zero = some (.agg #[.int .i64 0, .int .i64 0, .int .i64 0, .int .i64 0, .int .i64 0, .int .i64 0, .slice none 0 0]) ∧ i.size = 7 ∧ i.bytes = 72 := by
    have h := Tryd.info_pkt
    cases he : Tryd.prog.info? 26 with
    | none => rw [he] at h; cases h
    | some i =>
      rw [he] at h
      simp only [Option.map_some, Option.some.injEq, Prod.mk.injEq] at h
      exact ⟨i, rfl, h.1, h.2.1, h.2.2⟩
  refine wpList_append_lies w hgd s x 52 ho base 26 i _ 7 72 Tryd.underlying52 hi hz hsz hby (by rfl) (by decide) (.slice c xs.length d) xs.length (flatK xs) hs hown ad 1 cc (rowK p) hx rfl hp ?_ (by decide) (by unfold maxLen; omega) (by omega) hbase _ rfl ?_
  · intro u hu
    simp only [rowK, List.mem_cons, List.not_mem_nil, or_false] at hu
    rcases hu with rfl | rfl | rfl | rfl | rfl | rfl | rfl <;> rfl
  · intro g cap w' h1 h2 h3 h4
    have e1 : (xs ++ [p]).length = xs.length + 1 := by simp
    have e2 : flatK xs ++ rowK p = flatK (xs ++ [p]) := by rw [flatK_app]; simp [flatK]
    have h2' : w.grownBy w' (c.map Addr.block) := by cases c <;> exact h2
    refine h _ _ w' ?_ h2' (Hid.mk ⟨g, rfl, ?_, h4⟩)
    · unfold OwnK; rw [e1, ← e2]; exact h1
    · rcases h3 with h3 | h3
      · left; cases c with
        | none => cases h3
        | some b => exact ⟨b, rfl, by simpa [Value.ownBlock] using h3⟩
      · exact .inr h3

/-- What a right selector's sample is. -/
theorem implSample_ok (x : S9) (hx : sfC x = 0) (r : Int) (hr : r = if x.r = 0 then 6 else x.r) (w : World) :
    Calls Tryd.prog 25 #[.agg #[.int .i64 x.a, .int .i64 x.b, .int .i64 x.c, .int .i64 x.d, .int .i64 x.e, .int .i64 x.f, .int .i64 x.g, .int .i64 x.h, .int .i64 x.r]] w fun e w' => e = .returned (.agg #[.int .i64 0, .int .i64 x.a, .int .i64 x.c, .int .i64 r, .int .i64 64, .int .i64 x.e, .int .i64 x.g, .slice none 0 0]) ∧ Below w.heap.size w w' := by
  subst hr
  by_cases h1 : x.r = 0
  · rw [if_pos h1]; exact implSmp1 x w hx (by simp [h1])
  · rw [if_neg h1]; exact implSmp2 x w hx (by simp [h1])

end Go.Proofs.YtngkahchhioncaaDoor

/- 'append(out, part...)': a row of bytes of the call's own, and bytes from wherever: at a plain list, at a guard that says yes, at a step of a region that draws. -/
namespace Go.Proofs.YtngkahchhioncaaDoor
open Go.RowKit

section
variable {P : Program} (w : World)

theorem wp_append_rd {o : Oper} {a : Act} {K : Act → World → Prop} {Q : Exit → Act → World → Prop} (s x : Operand) (t : TypeId)
    (ho : o.op = .call { callee := .builtin .append, args := #[s, x], argTypes := #[t, t] })
    (base : Nat) (e : TypeId) (i : TypeInfo) (ht : P.underlying t = some (.slice e)) (hi : P.info? e = some i) (hz : i.zero = some (.int .u8 0)) (hsize : i.size = 1) (hby : i.bytes = 1)
    (v : Value) (n : Nat) (l : List Int) (hs : a.eval s = v) (hown : w.ownsRow base e 1 v n (l.map (Value.int .u8)))
    (c : Option Addr) (m d : Nat) (zs : List Int) (hx : a.eval x = .slice c m d) (hr : Rd .u8 w c zs) (hm : zs.length = m) (hc : c = none → d = 0)
    (h63 : n + m ≤ 140737488355328) (hbase : base ≤ w.heap.size)
    (h : ∀ v' w', w'.ownsRow base e 1 v' (n + m) ((l ++ zs).map (Value.int .u8)) → w.grownBy w' v.ownBlock → K (a.put o.dst v') w') : o.wp P a w K Q := by
  cases c with
  | none =>
    have hd := hc rfl
    subst hd
    have hz0 : zs = [] := by
      rcases hr with h0 | ⟨b, off, h0, _⟩
      · exact h0
      · cases h0
    subst hz0
    simp only [List.length_nil] at hm
    subst hm
    have hr2 := run_append_owned_none (P := P) w base t o.type e i 1 ht hi v n _ hown
    unfold Oper.wp execOp
    simp only [ho, resolve, invoke, builtin, Sem.run_bind, Sem.run_pure, Result.andThen_ok, List.map_toArray, List.map_cons, List.map_nil, hs, hx, hr2]
    exact h v w (by simpa using hown) (World.grownBy.refl _ _)
  | some ad =>
    refine wp_append_own w s x t ho base e i (.int .u8 0) 1 1 ht hi hz hsize hby rfl (by decide) v n _ hs hown ad m d (zs.map (Value.int .u8)) hx (by simp [hm]) (fun j u hj => ?_) (ints_oneCell _ _) (by unfold maxLen; omega) (by omega) hbase fun v' w' h1 h2 _ => h v' w' (by simpa using h1) h2
    rcases hr with h0 | ⟨b, off, h0, hcell⟩
    · subst h0; simp at hj
    · simp only [Option.some.injEq] at h0
      subst h0
      have hj' : j < zs.length := by
        rcases Nat.lt_or_ge j zs.length with h | h
        · exact h
        · simp [List.getElem?_eq_none h] at hj
      rw [Addr.add_lit, hcell j hj']
      simp [hj'] at hj
      subst hj
      simp [List.getD, hj']

theorem wpList_append_rd {ops : Array Oper} {rest : List Oper} {o : Oper} {a : Act} {Q : Exit → Act → World → Prop} (hgd : o.guard = none) (s x : Operand) (t : TypeId)
    (ho : o.op = .call { callee := .builtin .append, args := #[s, x], argTypes := #[t, t] })
    (base : Nat) (e : TypeId) (i : TypeInfo) (ht : P.underlying t = some (.slice e)) (hi : P.info? e = some i) (hz : i.zero = some (.int .u8 0)) (hsize : i.size = 1) (hby : i.bytes = 1)
    (v : Value) (n : Nat) (l : List Int) (hs : a.eval s = v) (hown : w.ownsRow base e 1 v n (l.map (Value.int .u8)))
    (c : Option Addr) (m d : Nat) (zs : List Int) (hx : a.eval x = .slice c m d) (hr : Rd .u8 w c zs) (hm : zs.length = m) (hc : c = none → d = 0)
    (h63 : n + m ≤ 140737488355328) (hbase : base ≤ w.heap.size)
    (h : ∀ v' w', w'.ownsRow base e 1 v' (n + m) ((l ++ zs).map (Value.int .u8)) → w.grownBy w' v.ownBlock → wpList P ops Q rest (a.put o.dst v') w') : wpList P ops Q (o :: rest) a w :=
  wpList_plain hgd fun _ hK => wp_append_rd w s x t ho base e i ht hi hz hsize hby v n l hs hown c m d zs hx hr hm hc h63 hbase fun v' w' h2 h3 => hK _ _ (h v' w' h2 h3)

theorem step_append_rd {ops : Array Oper} {o : Oper} {a : Act} {K : Act → World → Prop} {Q : Exit → Act → World → Prop} {E : Prop} (hgd : o.guard = none) (s x : Operand) (t : TypeId)
    (ho : o.op = .call { callee := .builtin .append, args := #[s, x], argTypes := #[t, t] })
    (base : Nat) (e : TypeId) (i : TypeInfo) (ht : P.underlying t = some (.slice e)) (hi : P.info? e = some i) (hz : i.zero = some (.int .u8 0)) (hsize : i.size = 1) (hby : i.bytes = 1)
    (v : Value) (n : Nat) (l : List Int) (hs : a.eval s = v) (hown : w.ownsRow base e 1 v n (l.map (Value.int .u8)))
    (c : Option Addr) (m d : Nat) (zs : List Int) (hx : a.eval x = .slice c m d) (hr : Rd .u8 w c zs) (hm : zs.length = m) (hc : c = none → d = 0)
    (h63 : n + m ≤ 140737488355328) (hbase : base ≤ w.heap.size)
    (h : ∀ v' w', w'.ownsRow base e 1 v' (n + m) ((l ++ zs).map (Value.int .u8)) → w.grownBy w' v.ownBlock → K (a.put o.dst v') w') :
    if Region.wanted o (yielded ops a.tmps) = true then Oper.wp P o a w K Q else E := by
  have hw : Region.wanted o (yielded ops a.tmps) = true := by simp [Region.wanted, hgd]
  rw [if_pos hw]
  exact wp_append_rd w s x t ho base e i ht hi hz hsize hby v n l hs hown c m d zs hx hr hm hc h63 hbase h

end

end Go.Proofs.YtngkahchhioncaaDoor

/- 'append' and 'copy' over a row of bytes of the call's own, in this place's words. -/
namespace Go.Proofs.YtngkahchhioncaaDoor
open Go.RowKit

section
variable {P : Program} (w : World)

theorem wpList_app {ops : Array Oper} {rest : List Oper} {o : Oper} {a : Act} {Q : Exit → Act → World → Prop} (hgd : o.guard = none) (s x : Operand) (t : TypeId)
    (ho : o.op = .call { callee := .builtin .append, args := #[s, x], argTypes := #[t, t] })
    (base : Nat) (e : TypeId) (i : TypeInfo) (ht : P.underlying t = some (.slice e)) (hi : P.info? e = some i) (hz : i.zero = some (.int .u8 0)) (hsize : i.size = 1) (hby : i.bytes = 1)
    (c0 : Option Addr) (cap n : Nat) (l : List Int) (hs : a.eval s = .slice c0 n cap) (hown : Own .u8 e w base c0 cap l) (hn : l.length = n)
    (c : Option Addr) (m d : Nat) (zs : List Int) (hx : a.eval x = .slice c m d) (hr : Rd .u8 w c zs) (hm : zs.length = m) (hc : c = none → d = 0)
    (h63 : n + m ≤ 140737488355328) (hbase : base ≤ w.heap.size)
    (h : ∀ c' d' w', Own .u8 e w' base c' d' (l ++ zs) → w.grownBy w' (c0.map Addr.block) → Below base w w' → wpList P ops Q rest (a.put o.dst (.slice c' (n + m) d')) w') : wpList P ops Q (o :: rest) a w := by
  refine wpList_append_rd w hgd s x t ho base e i ht hi hz hsize hby _ n l hs (hown.row hn) c m d zs hx hr hm hc h63 hbase fun v' w' h1 h2 => ?_
  obtain ⟨c', d', rfl⟩ := ownsRow_shape h1
  have e0 : (Value.slice c0 n cap).ownBlock = c0.map Addr.block := by cases c0 <;> rfl
  rw [e0] at h2
  refine h c' d' w' (Own.mk h1 (by simp [hn, hm])) h2 ((Below.refl base w).grown h2 hbase fun k hk => ?_)
  have := hown.lt
  cases c0 with
  | none => cases hk
  | some b => simp at hk; subst hk; exact (this b rfl).1

theorem step_app {ops : Array Oper} {o : Oper} {a : Act} {K : Act → World → Prop} {Q : Exit → Act → World → Prop} {E : Prop} (hgd : o.guard = none) (s x : Operand) (t : TypeId)
    (ho : o.op = .call { callee := .builtin .append, args := #[s, x], argTypes := #[t, t] })
    (base : Nat) (e : TypeId) (i : TypeInfo) (ht : P.underlying t = some (.slice e)) (hi : P.info? e = some i) (hz : i.zero = some (.int .u8 0)) (hsize : i.size = 1) (hby : i.bytes = 1)
    (c0 : Option Addr) (cap n : Nat) (l : List Int) (hs : a.eval s = .slice c0 n cap) (hown : Own .u8 e w base c0 cap l) (hn : l.length = n)
    (c : Option Addr) (m d : Nat) (zs : List Int) (hx : a.eval x = .slice c m d) (hr : Rd .u8 w c zs) (hm : zs.length = m) (hc : c = none → d = 0)
    (h63 : n + m ≤ 140737488355328) (hbase : base ≤ w.heap.size)
    (h : ∀ c' d' w', Own .u8 e w' base c' d' (l ++ zs) → w.grownBy w' (c0.map Addr.block) → Below base w w' → K (a.put o.dst (.slice c' (n + m) d')) w') :
    if Region.wanted o (yielded ops a.tmps) = true then Oper.wp P o a w K Q else E := by
  refine step_append_rd w hgd s x t ho base e i ht hi hz hsize hby _ n l hs (hown.row hn) c m d zs hx hr hm hc h63 hbase fun v' w' h1 h2 => ?_
  obtain ⟨c', d', rfl⟩ := ownsRow_shape h1
  have e0 : (Value.slice c0 n cap).ownBlock = c0.map Addr.block := by cases c0 <;> rfl
  rw [e0] at h2
  refine h c' d' w' (Own.mk h1 (by simp [hn, hm])) h2 ((Below.refl base w).grown h2 hbase fun k hk => ?_)
  have := hown.lt
  cases c0 with
  | none => cases hk
  | some b => simp at hk; subst hk; exact (this b rfl).1

theorem wpList_put {ops : Array Oper} {rest : List Oper} {o : Oper} {a : Act} {Q : Exit → Act → World → Prop} (hgd : o.guard = none) (s x : Operand) (t : TypeId)
    (ho : o.op = .call { callee := .builtin .append, args := #[s, x], argTypes := #[t, t] })
    (base : Nat) (e : TypeId) (i : TypeInfo) (ht : P.underlying t = some (.slice e)) (hi : P.info? e = some i) (hz : i.zero = some (.int .u8 0)) (hsize : i.size = 1) (hby : i.bytes = 1)
    (c0 : Option Addr) (cap n : Nat) (l : List Int) (hs : a.eval s = .slice c0 n cap) (hown : Own .u8 e w base c0 cap l) (hn : l.length = n)
    (c : Option Addr) (m d : Nat) (zs : List Int) (hx : a.eval x = .slice c m d) (hr : Rd .u8 w c zs) (hm : zs.length = m) (hc : c = none → d = 0)
    (k : Nat) (l' : List Int) (hk : n + m = k) (hl' : l ++ zs = l') (h63 : n + m ≤ 140737488355328) (hbase : base ≤ w.heap.size)
    (h : ∀ c' d' w', Own .u8 e w' base c' d' l' → Below base w w' → wpList P ops Q rest (a.put o.dst (.slice c' k d')) w') : wpList P ops Q (o :: rest) a w := by
  subst hk
  subst hl'
  exact wpList_app w hgd s x t ho base e i ht hi hz hsize hby c0 cap n l hs hown hn c m d zs hx hr hm hc h63 hbase fun c' d' w' h1 _ h3 => h c' d' w' h1 h3

theorem step_put {ops : Array Oper} {o : Oper} {a : Act} {K : Act → World → Prop} {Q : Exit → Act → World → Prop} {E : Prop} (hgd : o.guard = none) (s x : Operand) (t : TypeId)
    (ho : o.op = .call { callee := .builtin .append, args := #[s, x], argTypes := #[t, t] })
    (base : Nat) (e : TypeId) (i : TypeInfo) (ht : P.underlying t = some (.slice e)) (hi : P.info? e = some i) (hz : i.zero = some (.int .u8 0)) (hsize : i.size = 1) (hby : i.bytes = 1)
    (c0 : Option Addr) (cap n : Nat) (l : List Int) (hs : a.eval s = .slice c0 n cap) (hown : Own .u8 e w base c0 cap l) (hn : l.length = n)
    (c : Option Addr) (m d : Nat) (zs : List Int) (hx : a.eval x = .slice c m d) (hr : Rd .u8 w c zs) (hm : zs.length = m) (hc : c = none → d = 0)
    (k : Nat) (l' : List Int) (hk : n + m = k) (hl' : l ++ zs = l') (h63 : n + m ≤ 140737488355328) (hbase : base ≤ w.heap.size)
    (h : ∀ c' d' w', Own .u8 e w' base c' d' l' → Below base w w' → K (a.put o.dst (.slice c' k d')) w') :
    if Region.wanted o (yielded ops a.tmps) = true then Oper.wp P o a w K Q else E := by
  subst hk
  subst hl'
  exact step_app w hgd s x t ho base e i ht hi hz hsize hby c0 cap n l hs hown hn c m d zs hx hr hm hc h63 hbase fun c' d' w' h1 _ h3 => h c' d' w' h1 h3

theorem Rd.keptB {k : IntKind} {w w' : World} {top : Nat} {a : Option Addr} {zs : List Int} (h : Rd k w a zs) (hlt : ∀ b, a = some b → b.block < top) (hb : Below top w w') : Rd k w' a zs := by
  rcases h with h | ⟨b, off, rfl, hc⟩
  · exact .inl h
  · exact .inr ⟨b, off, rfl, fun i hi => (hb.cell (p := ⟨b, off + i, none⟩) (show b < top from hlt ⟨b, off, none⟩ rfl)).trans (hc i hi)⟩

theorem splice_map {α β : Type} (f : α → β) (l : List α) (off : Nat) (cs : List α) : (splice l off cs).map f = splice (l.map f) off (cs.map f) := by
  simp [splice, List.map_take, List.map_drop]

theorem splice_take {α : Type} (l : List α) (off n : Nat) (cs : List α) (h : off + cs.length ≤ n) (hn : n ≤ l.length) : (splice l off cs).take n = splice (l.take n) off cs := by
  unfold splice
  have h1 : (l.take n).take off = l.take off := by rw [List.take_take, Nat.min_eq_left (by omega)]
  have h2 : (l.take n).drop (off + cs.length) = (l.drop (off + cs.length)).take (n - (off + cs.length)) := by rw [List.drop_take]
  rw [h1, h2]
  have e : n = (l.take off).length + (cs.length + (n - (off + cs.length))) := by simp; omega
  conv => lhs; rw [e]
  rw [List.take_length_add_append, List.take_length_add_append]

theorem step_copy {ops : Array Oper} {o : Oper} {a : Act} {K : Act → World → Prop} {Q : Exit → Act → World → Prop} {E : Prop} (hgd : o.guard = none) (d s : Operand) (dT sT : TypeId)
    (ho : o.op = .call { callee := .builtin .copy, args := #[d, s], argTypes := #[dT, sT] }) (e : TypeId) (hu : P.underlying dT = some (.slice e)) (hsz : (P.info? e).map (·.size) = some 1)
    (g off dLen dCap m sCap cap base : Nat) (sp : Option Addr) (l zs : List Int) (hd : a.eval d = .slice (some ⟨g, off, none⟩) dLen dCap) (hs : a.eval s = .slice sp m sCap)
    (hown : Own .u8 e w base (some ⟨g, 0, none⟩) cap l) (hr : Rd .u8 w sp zs) (hm : zs.length = m) (hmd : m ≤ dLen) (hfit : off + m ≤ l.length)
    (h : ∀ w', Own .u8 e w' base (some ⟨g, 0, none⟩) cap (splice l off zs) → w.grownBy w' (some g) → Below base w w' → K (a.put o.dst (goInt m)) w') :
    if Region.wanted o (yielded ops a.tmps) = true then Oper.wp P o a w K Q else E := by
  obtain ⟨h1, h2⟩ := hown
  rcases h2 with ⟨h2, _⟩ | ⟨g', cap', cur, hv, hg, hb, hc, hcm, hcs, htk⟩
  · simp at h2
  simp only [Value.slice.injEq, Option.some.injEq, Addr.mk.injEq, and_true, true_and] at hv
  obtain ⟨rfl, rfl⟩ := hv
  simp only [Nat.mul_one] at hcs htk
  have hbelow : Below base w w := Below.refl base w
  obtain ⟨cur, rfl⟩ : ∃ c : List Value, cur = c.toArray := ⟨cur.toList, by simp⟩
  simp only [List.size_toArray] at hcs
  have hw : Region.wanted o (yielded ops a.tmps) = true := by simp [Region.wanted, hgd]
  rw [if_pos hw]
  have hlen : (zs.map (Value.int .u8)).length = m := by simp [hm]
  have hfin : ∀ w', w'.heap[g]? = some (.cells (splice cur off (zs.map (Value.int .u8))).toArray e (0, 0)) → Own .u8 e w' base (some ⟨g, 0, none⟩) cap (splice l off zs) := by
    intro w' hw'
    have hl : (splice l off zs).length = l.length := length_splice _ _ _ (by omega)
    refine ⟨by simp, .inr ⟨g, cap, (splice cur off (zs.map (Value.int .u8))).toArray, rfl, hg, hw', by omega, hcm, ?_, ?_⟩⟩
    · simp only [List.size_toArray, Nat.mul_one]; rw [length_splice _ _ _ (by simp; omega)]; omega
    · simp only [Nat.mul_one]
      rw [hl, splice_map, splice_take _ _ _ _ (by simp; omega) (by omega), htk]
  by_cases h0 : m = 0
  · have hz : zs = [] := List.eq_nil_of_length_eq_zero (by omega)
    subst hz
    have hrun := run_copy_none (P := P) w dT sT o.type e (some ⟨g, off, none⟩) sp dLen dCap m sCap hu hsz (by simp [h0])
    unfold Oper.wp
    simp [execOp, ho, resolve, invoke, builtin, hd, hs, hrun, Result.andThen]
    subst h0
    exact h w (hfin w (by simpa [splice] using hb)) (World.grownBy.refl _ _) hbelow
  · rcases hr with hr | ⟨b2, o2, rfl, hcell⟩
    · subst hr; simp at hm; omega
    have hrun := run_copy_row (P := P) w dT sT o.type e g off dLen dCap ⟨b2, o2, none⟩ m sCap cur.toArray e (zs.map (Value.int .u8)) hu hsz hb (by rw [hlen]; exact (Nat.min_eq_left hmd).symm) (fun j v hj => by
      have hj' : j < zs.length := by
        rcases Nat.lt_or_ge j zs.length with h | h
        · exact h
        · simp [List.getElem?_eq_none h] at hj
      rw [Addr.add_lit, hcell j hj']
      simp [hj'] at hj
      subst hj
      simp [List.getD, hj']) (by simp; omega) (ints_oneCell _ _)
    unfold Oper.wp
    simp [execOp, ho, resolve, invoke, builtin, hd, hs, hrun, Result.andThen, hm]
    refine h _ (hfin _ (by simpa [splice, hm] using setRow_heap w g _ (cur.take off ++ (zs.map (Value.int .u8) ++ cur.drop (off + m))).toArray e _ hb)) ⟨rfl, rfl, rfl, by simp [World.setRow], fun k _ hk => setRow_other w g k _ (fun e => hk (by rw [e]))⟩ ?_
    exact below_setRow hbelow hg _

end

end Go.Proofs.YtngkahchhioncaaDoor

/- The law's own helpers over packets and their results, by contracts. -/
namespace Go.Proofs.YtngkahchhioncaaDoor
open Go.RowKit

set_option maxHeartbeats 400000 in
theorem szByteS_in (a : Option Addr) (n ca : Nat) (left : Int) (w : World) (h : (n : Int) ≤ left) (hl : left ≤ 1048576) :
    Calls Tryd.prog 80 #[.slice a n ca, .int .i64 left] w fun e w' => e = .returned (.int .i64 (left - (n : Int))) ∧ w' = w := by
  have h0 : 0 ≤ left - (n : Int) := by omega
  go_enter Tryd.func80, Tryd.ntmps80
  go_wp2
  go_ret
  exact ⟨rfl, rfl⟩

set_option maxHeartbeats 400000 in
theorem szByteS_out (a : Option Addr) (n ca : Nat) (left : Int) (w : World) (h : left < (n : Int)) (h0 : 0 ≤ left) (hl : left ≤ 1048576) (hx : n ≤ maxLen) :
    Calls Tryd.prog 80 #[.slice a n ca, .int .i64 left] w fun e w' => e = .returned (.int .i64 (-1)) ∧ w' = w := by
  unfold maxLen at hx
  have h1 : left - (n : Int) < 0 := by omega
  go_enter Tryd.func80, Tryd.ntmps80
  go_wp2
  go_ret
  exact ⟨rfl, rfl⟩

set_option maxHeartbeats 400000 in
theorem szPacket_in (f t r l x y : Int) (a : Option Addr) (n ca : Nat) (left : Int) (w : World) (h : (n : Int) ≤ left) (hl : left ≤ 1048576) :
    Calls Tryd.prog 31 #[.agg #[.int .i64 f, .int .i64 t, .int .i64 r, .int .i64 l, .int .i64 x, .int .i64 y, .slice a n ca], .int .i64 left] w fun e w' => e = .returned (.int .i64 (left - (n : Int))) ∧ Below w.heap.size w w' := by
  have h0 : 0 ≤ left - (n : Int) := by omega
  go_enter Tryd.func31, Tryd.ntmps31
  go_wp2_with (first | (go_at_call 80; refine (szByteS_in _ _ _ _ _ h hl).mono ?_; rintro e w2 ⟨rfl, rfl⟩) | go_in)
  go_ret
  exact ⟨rfl, belowA _ _⟩

set_option maxHeartbeats 400000 in
theorem szPacket_out (f t r l x y : Int) (a : Option Addr) (n ca : Nat) (left : Int) (w : World) (h : left < (n : Int)) (h0 : 0 ≤ left) (hl : left ≤ 1048576) (hx : n ≤ maxLen) :
    Calls Tryd.prog 31 #[.agg #[.int .i64 f, .int .i64 t, .int .i64 r, .int .i64 l, .int .i64 x, .int .i64 y, .slice a n ca], .int .i64 left] w fun e w' => e = .returned (.int .i64 (-1)) ∧ Below w.heap.size w w' := by
  go_enter Tryd.func31, Tryd.ntmps31
  go_wp2_with (first | (go_at_call 80; refine (szByteS_out _ _ _ _ _ h h0 hl hx).mono ?_; rintro e w2 ⟨rfl, rfl⟩) | go_in)
  go_ret
  exact ⟨rfl, belowA _ _⟩

set_option maxHeartbeats 1000000 in
theorem toPacket_ok (f t r l x y : Int) (a : Option Addr) (n ca : Nat) (xs : List Int) (w : World) (ha : Rd .u8 w a xs) (hn : xs.length = n) (hx : n ≤ 281474976710656) :
    Calls Tryd.prog 32 #[.agg #[.int .i64 f, .int .i64 t, .int .i64 r, .int .i64 l, .int .i64 x, .int .i64 y, .slice a n ca]] w fun e w' =>
      ∃ c d, e = .returned (.agg #[.int .i64 f, .int .i64 t, .int .i64 r, .int .i64 l, .int .i64 x, .int .i64 y, .slice c n d]) ∧ Own .u8 5 w' w.heap.size c d xs ∧ Below w.heap.size w w' := by
  go_enter Tryd.func32, Tryd.ntmps32
  go_wp2_with fail
  refine (toByteS_ok a n ca xs _ (ha.kept (belowA3 _ _ _ _)) hn hx).mono ?_
  rintro e w1 ⟨c, d, rfl, o1, b1⟩
  have B1 := thenB (belowA3 w _ _ _) b1
  obtain ⟨hc1, hf1⟩ := bcell b1
  have hz1 := b1.size
  simp at hz1
  have O1 := Hid.mk o1
  clear o1
  go_wp2
  refine bodyPost_ret (v := .agg #[.int .i64 f, .int .i64 t, .int .i64 r, .int .i64 l, .int .i64 x, .int .i64 y, .slice c n d]) (by simp [results, Tryd.results32, go_sem, hc1]) rfl ⟨c, d, rfl, ?_, ?_⟩
  · refine ((((((((O1.out.below ?_ _).below ?_ _).below ?_ _).below ?_ _).below ?_ _).below ?_ _).below ?_ _).below ?_ _).mono ?_
    all_goals
      simp
      try omega
  · refine (((((((B1.setCell ?_ _).setCell ?_ _).setCell ?_ _).setCell ?_ _).setCell ?_ _).setCell ?_ _).setCell ?_ _).setCell ?_ _
    all_goals
      simp
      try omega

set_option maxHeartbeats 1000000 in
theorem eqPacket_ok (f t r l x y : Int) (a b : Option Addr) (n ca cb : Nat) (xs : List Int) (w : World) (ha : Rd .u8 w a xs) (hb : Rd .u8 w b xs) (hn : xs.length = n) (hx : n ≤ maxLen) :
    Calls Tryd.prog 34 #[.agg #[.int .i64 f, .int .i64 t, .int .i64 r, .int .i64 l, .int .i64 x, .int .i64 y, .slice a n ca], .agg #[.int .i64 f, .int .i64 t, .int .i64 r, .int .i64 l, .int .i64 x, .int .i64 y, .slice b n cb]] w fun e w' => e = .returned (.bool true) ∧ Below w.heap.size w w' := by
  have hT : decide (xs = xs) = true := by simp
  go_enter Tryd.func34, Tryd.ntmps34
  go_wp2_with fail
  refine (eqByteS_ok a b n n ca cb xs xs _ (ha.kept (belowA2 _ _ _)) (hb.kept (belowA2 _ _ _)) hn hn hx hx).mono ?_
  rintro e w1 ⟨rfl, b1⟩
  go_wp2
  go_ret
  exact ⟨rfl, thenB (belowA2 _ _ _) b1⟩

/-- The cells of two packets that lie in variables of the call's own. -/
def Held2 (B0 B1 : Nat) (f t r l x y s f' t' r' l' x' y' s' : Value) (w : World) : Prop :=
  w.cell? ⟨B0, 0, none⟩ = some f ∧ w.cell? ⟨B0, 1, none⟩ = some t ∧ w.cell? ⟨B0, 2, none⟩ = some r ∧ w.cell? ⟨B0, 3, none⟩ = some l ∧ w.cell? ⟨B0, 4, none⟩ = some x ∧ w.cell? ⟨B0, 5, none⟩ = some y ∧ w.cell? ⟨B0, 6, none⟩ = some s ∧
  w.cell? ⟨B1, 0, none⟩ = some f' ∧ w.cell? ⟨B1, 1, none⟩ = some t' ∧ w.cell? ⟨B1, 2, none⟩ = some r' ∧ w.cell? ⟨B1, 3, none⟩ = some l' ∧ w.cell? ⟨B1, 4, none⟩ = some x' ∧ w.cell? ⟨B1, 5, none⟩ = some y' ∧ w.cell? ⟨B1, 6, none⟩ = some s'

theorem held2 {w w' : World} {B0 B1 : Nat} {f t r l x y s f' t' r' l' x' y' s' : Value} (h0 : At w B0 [f, t, r, l, x, y, s]) (h1 : At w B1 [f', t', r', l', x', y', s']) (b : Below w.heap.size w w') : Held2 B0 B1 f t r l x y s f' t' r' l' x' y' s' w' := by
  obtain ⟨f0, f1, f2, f3, f4, f5, f6, _⟩ := (h0.kept b).seven
  obtain ⟨g0, g1, g2, g3, g4, g5, g6, _⟩ := (h1.kept b).seven
  exact ⟨f0, f1, f2, f3, f4, f5, f6, g0, g1, g2, g3, g4, g5, g6⟩

theorem At.newR (w : World) (k f t r l x y s : Value) (e : TypeId) : At (w.alloc (.cells #[k, f, t, r, l, x, y, s] e)) w.heap.size [k, f, t, r, l, x, y, s] := by
  refine ⟨by simp, fun i v hi => ?_⟩
  rw [World.cell?_alloc_at _ _ _ _ rfl]
  match i, hi with
  | 0, hi => simpa using hi
  | 1, hi => simpa using hi
  | 2, hi => simpa using hi
  | 3, hi => simpa using hi
  | 4, hi => simpa using hi
  | 5, hi => simpa using hi
  | 6, hi => simpa using hi
  | 7, hi => simpa using hi

theorem At.eight {w : World} {B : Nat} {k f t r l x y s : Value} (h : At w B [k, f, t, r, l, x, y, s]) : w.cell? ⟨B, 0, none⟩ = some k ∧ w.cell? ⟨B, 1, none⟩ = some f ∧ w.cell? ⟨B, 2, none⟩ = some t ∧ w.cell? ⟨B, 3, none⟩ = some r ∧ w.cell? ⟨B, 4, none⟩ = some l ∧ w.cell? ⟨B, 5, none⟩ = some x ∧ w.cell? ⟨B, 6, none⟩ = some y ∧ w.cell? ⟨B, 7, none⟩ = some s ∧ B < w.heap.size :=
  ⟨h.2 0 k rfl, h.2 1 f rfl, h.2 2 t rfl, h.2 3 r rfl, h.2 4 l rfl, h.2 5 x rfl, h.2 6 y rfl, h.2 7 s rfl, h.1⟩

theorem At.set {w : World} {B i : Nat} {vs : List Value} (h : At w B vs) (hi : i < vs.length) (v : Value) : At (w.setCell ⟨B, i, none⟩ v) B (vs.set i v) := by
  refine ⟨by simpa [World.setCell] using h.1, fun j u hj => ?_⟩
  by_cases hij : i = j
  · subst hij
    rw [List.getElem?_set_self hi] at hj
    simp only [Option.some.injEq] at hj
    subst hj
    exact World.cell?_setCell_same w _ _ (h.2 i (vs[i]) (List.getElem?_eq_getElem hi))
  · rw [List.getElem?_set_ne hij] at hj
    rw [World.cell?_setCell_other w _ _ _ (by simp)]
    exact h.2 j u hj

theorem At.other {w : World} {B : Nat} {vs : List Value} {p : Addr} (h : At w B vs) (hp : p.block ≠ B) (v : Value) : At (w.setCell p v) B vs := by
  refine ⟨by simpa [World.setCell] using h.1, fun j u hj => ?_⟩
  rw [World.cell?_setCell_other w _ _ _ (by intro e; exact hp (by rw [e]))]
  exact h.2 j u hj

/-- A variable that is not frozen. -/
def Fz (w : World) (B : Nat) : Prop := ∀ o, w.frozen? ⟨B, o, none⟩ = false

theorem Fz.new (w : World) (vs : Array Value) (e : TypeId) : Fz (w.alloc (.cells vs e)) w.heap.size := by
  intro o; simp [go_sem]

theorem Fz.kept {w w' : World} {B : Nat} (h : Fz w B) (hB : B < w.heap.size) (hb : Below w.heap.size w w') : Fz w' B := fun o =>
  (hb.frozen (p := ⟨B, o, none⟩) hB).trans (h o)

theorem Fz.set {w : World} {B : Nat} (h : Fz w B) (p : Addr) (v : Value) : Fz (w.setCell p v) B := by
  intro o; simpa [go_sem] using h o

end Go.Proofs.YtngkahchhioncaaDoor

/- The draws of policies. -/
namespace Go.Proofs.YtngkahchhioncaaDoor
open Go.RowKit

theorem grownOwnR {w wr w1 : World} {B : Nat} {row : Option Nat} (h : w.grownBy wr (some B)) (hg : wr.grownBy w1 row) (hr : ∀ k, row = some k → w.heap.size ≤ k) : w.grownBy w1 (some B) := by
  refine ⟨hg.os.trans h.os, hg.tape.trans h.tape, hg.output.trans h.output, Nat.le_trans h.size hg.size, fun i hi hr' => ?_⟩
  have h2 := h.size
  rw [hg.block i (by omega) (fun e => by have := hr i e.symm; omega)]
  exact h.block i hi hr'

theorem build_rul (x : S9) (p : Int) (w : World) : (Instr.build 34 #[(0, .agg #[.int .i64 x.a, .int .i64 x.b, .int .i64 x.c, .int .i64 x.d, .int .i64 x.e, .int .i64 x.f, .int .i64 x.g, .int .i64 x.h, .int .i64 x.r]), (1, .int .i64 p)]).run Tryd.prog w = .ok (.agg #[.int .i64 x.a, .int .i64 x.b, .int .i64 x.c, .int .i64 x.d, .int .i64 x.e, .int .i64 x.f, .int .i64 x.g, .int .i64 x.h, .int .i64 x.r, .int .i64 p, .int .i64 0]) w := run_build w 34 _ _ (by kernel_rfl)

set_option maxRecDepth 20000 in
set_option maxHeartbeats 4000000 in
theorem l4Policy_ok (B : Nat) (a : Option Addr) (n ca : Nat) (zs : List Int) (t m : Nat) (w : World) (hs : Src w B a n ca zs t) (hb : Bytes zs) (hn : zs.length = n) (hx : n ≤ 1048577) (ht : t ≤ 1000) (hm : m ≤ 20) :
    Calls Tryd.prog 109 #[.pointer (some ⟨B, 0, none⟩), .int .i64 m] w fun e w' => ∃ (c d : Nat) (xs : List R11) (q : Nat), e = .returned (.slice (some ⟨c, 0, none⟩) m d) ∧ xs.length = m ∧ OwnRule w' w.heap.size (some ⟨c, 0, none⟩) d xs ∧ q ≤ t + 42 * m ∧ Src w' B a n ca zs q ∧ w.grownBy w' (some B) := by
  have hBw : B < w.heap.size := hs.1.1
  have qb := build_rul
  go_enter Tryd.func109, Tryd.ntmps109
  have O := Hid.mk (OwnRule.lit w [] [] rfl (by decide))
  have S := Hid.mk (hs.kept (belowA w (.cells #[] 34)))
  have G := Hid.mk (grown_alloc (World.grownBy.refl w (some B)) (.cells #[] 34))
  clear hs
  go_wp2
  go_loopw [1, 5] (fun i v wr => ∃ (j d c : Nat) (xs : List R11) (q : Nat), j ≤ m ∧ i = .int .i64 ((m : Int) - (j : Int)) ∧ v = .slice (some ⟨c, 0, none⟩) j d ∧ xs.length = j ∧ OwnRule wr w.heap.size (some ⟨c, 0, none⟩) d xs ∧ q ≤ t + 42 * j ∧ Src wr B a n ca zs q ∧ w.grownBy wr (some B)) (fun i _ _ => (intOf i).toNat)
  case atStart => exact ⟨0, 0, _, [], t, Nat.zero_le _, by simp, rfl, rfl, O.out, by omega, S.out, G.out⟩
  case round =>
    clear O S G
    obtain ⟨j, d, c, xs, q, hj, rfl, rfl, hl, O, hq, S, G⟩ := hrel
    by_cases hlt : j < m
    · have hk1 : 0 < (m : Int) - (j : Int) := by omega
      have hl' := Hid.mk hl
      clear hl
      go_wp2_with fail
      refine (l3Sel_ok B a n ca zs q _ S hb hn hx (by omega)).mono ?_
      rintro e w2 ⟨xa, xb, xc, xd, xe, xf, xg, xh, xr, q2, rfl, hq2, S2, g2⟩
      replace O := O.grown g2 (fun b hb => by have := (O.lt b hb).1; simp; omega)
      replace G := grownBy_trans G g2
      obtain ⟨x, hxs⟩ : ∃ x : S9, x = ⟨xa, xb, xc, xd, xe, xf, xg, xh, xr⟩ := ⟨_, rfl⟩
      obtain ⟨rfl, rfl, rfl, rfl, rfl, rfl, rfl, rfl, rfl⟩ : x.a = xa ∧ x.b = xb ∧ x.c = xc ∧ x.d = xd ∧ x.e = xe ∧ x.f = xf ∧ x.g = xg ∧ x.h = xh ∧ x.r = xr := by subst hxs; exact ⟨rfl, rfl, rfl, rfl, rfl, rfl, rfl, rfl, rfl⟩
      clear hxs g2 S
      go_wp2_with fail
      refine (l1Next_ok B a n ca zs q2 3 _ S2 hb hn hx (by omega) (by omega)).mono ?_
      rintro e w3 ⟨v, rfl, hv, _, S3, g3⟩
      obtain ⟨hv1, hv2⟩ := hv (by omega)
      replace O := O.grown g3 (fun b hb => by have := (O.lt b hb).1; simp; omega)
      replace G := grownBy_trans G g3
      clear S2 g3
      obtain ⟨p, hp⟩ : ∃ p, 1 + v = p := ⟨_, rfl⟩
      have hcw := O.lt ⟨c, 0, none⟩ rfl
      simp only at hcw
      have hGz := G.size
      have VR := V.new w3 [.int .i64 x.a, .int .i64 x.b, .int .i64 x.c, .int .i64 x.d, .int .i64 x.e, .int .i64 x.f, .int .i64 x.g, .int .i64 x.h, .int .i64 x.r, .int .i64 p, .int .i64 0] 34
      replace S3 := S3.kept (belowA w3 (.cells #[.int .i64 x.a, .int .i64 x.b, .int .i64 x.c, .int .i64 x.d, .int .i64 x.e, .int .i64 x.f, .int .i64 x.g, .int .i64 x.h, .int .i64 x.r, .int .i64 p, .int .i64 0] 34))
      replace O := O.kept (belowA w3 (.cells #[.int .i64 x.a, .int .i64 x.b, .int .i64 x.c, .int .i64 x.d, .int .i64 x.e, .int .i64 x.f, .int .i64 x.g, .int .i64 x.h, .int .i64 x.r, .int .i64 p, .int .i64 0] 34))
      replace G := grown_alloc G (.cells #[.int .i64 x.a, .int .i64 x.b, .int .i64 x.c, .int .i64 x.d, .int .i64 x.e, .int .i64 x.f, .int .i64 x.g, .int .i64 x.h, .int .i64 x.r, .int .i64 p, .int .i64 0] 34)
      by_cases h3 : p = 3
      · have hp3 : (p == 3) = true := by simp [h3]
        clear h3
        obtain ⟨s_VR, f_VR, z_VR⟩ := VR.open
        replace O := Hid.mk O
        go_wp2_with fail
        refine (l1Next_ok B a n ca zs (q2 + 1) 3 _ S3 hb hn hx (by omega) (by omega)).mono ?_
        rintro e w4 ⟨u, rfl, hu, _, S4, g4⟩
        obtain ⟨hu1, hu2⟩ := hu (by omega)
        clear s_VR f_VR z_VR
        replace VR := VR.grownB g4 (by omega)
        replace O := O.out.grown g4 (fun b hb => by have := (O.out.lt b hb).1; simp; omega)
        replace G := grownBy_trans G g4
        have hz4 := g4.size
        simp only [World.size_alloc] at hz4
        clear S3 g4
        obtain ⟨y, hy⟩ : ∃ y, 1 + u = y := ⟨_, rfl⟩
        obtain ⟨s_VR, f_VR, z_VR⟩ := VR.open
        have S3 := S4.other (p := ⟨w3.heap.size, 10, none⟩) (by simp; omega) (.int .i64 y)
        replace O := O.away (p := ⟨w3.heap.size, 10, none⟩) (fun b hb => by simp at hb; subst hb; simp; omega) (.int .i64 y)
        replace G := grownSet' G (p := ⟨w3.heap.size, 10, none⟩) (by simp; omega) (.int .i64 y)
        clear S4
        replace S3 := S3.kept (belowA (w4.setCell ⟨w3.heap.size, 10, none⟩ (.int .i64 y)) (.cells #[.int .i64 x.a, .int .i64 x.b, .int .i64 x.c, .int .i64 x.d, .int .i64 x.e, .int .i64 x.f, .int .i64 x.g, .int .i64 x.h, .int .i64 x.r, .int .i64 p, .int .i64 y] 34))
        replace O := O.kept (belowA (w4.setCell ⟨w3.heap.size, 10, none⟩ (.int .i64 y)) (.cells #[.int .i64 x.a, .int .i64 x.b, .int .i64 x.c, .int .i64 x.d, .int .i64 x.e, .int .i64 x.f, .int .i64 x.g, .int .i64 x.h, .int .i64 x.r, .int .i64 p, .int .i64 y] 34))
        replace G := grown_alloc G (.cells #[.int .i64 x.a, .int .i64 x.b, .int .i64 x.c, .int .i64 x.d, .int .i64 x.e, .int .i64 x.f, .int .i64 x.g, .int .i64 x.h, .int .i64 x.r, .int .i64 p, .int .i64 y] 34)
        have TL := G.size
        replace G := Hid.mk G
        replace S3 := Hid.mk S3
        go_wp2_with (at_builtin; go_loud (refine wpList_putRule _ rfl _ _ rfl w.heap.size (some ⟨c, 0, none⟩) d xs j hl'.out rfl O _ 1 ⟨x, p, y⟩ rfl (fun j u hu => by have h := newCells (w4.setCell ⟨w3.heap.size, 10, none⟩ (.int .i64 y)) 34 (rowRule ⟨x, p, y⟩) j u hu; simp only [World.size_setCell] at h; exact h) (by omega) TL ?_))
        intro c4 d4 w5 O5 hg5 hx5
        obtain ⟨c5, rfl, _, _⟩ := hx5.out
        replace S3 := S3.out.grownAway hg5 (fun k hk => by simp at hk; omega)
        replace G := grownOwnR G.out hg5 (fun k hk => by simp at hk; omega)
        have hl5 : (xs ++ [(⟨x, p, y⟩ : R11)]).length = j + 1 := by rw [List.length_append, hl'.out]; rfl
        replace O5 := Hid.mk O5
        replace S3 := Hid.mk S3
        replace G := Hid.mk G
        replace hl5 := Hid.mk hl5
        clear O hg5 hx5 TL
        go_wp2
        go_roundw
        case rel => exact ⟨j + 1, d4, c5, _, q2 + 1 + 1, by omega, by go_num, rfl, hl5.out, O5.out, by omega, S3.out, G.out⟩
        case measure => simp [intOf]; omega
      · have hp3 : (p == 3) = false := by simp [h3]
        clear h3
        obtain ⟨s_VR, f_VR, z_VR⟩ := VR.open
        replace S3 := S3.kept (belowA (w3.alloc (.cells #[.int .i64 x.a, .int .i64 x.b, .int .i64 x.c, .int .i64 x.d, .int .i64 x.e, .int .i64 x.f, .int .i64 x.g, .int .i64 x.h, .int .i64 x.r, .int .i64 p, .int .i64 0] 34)) (.cells #[.int .i64 x.a, .int .i64 x.b, .int .i64 x.c, .int .i64 x.d, .int .i64 x.e, .int .i64 x.f, .int .i64 x.g, .int .i64 x.h, .int .i64 x.r, .int .i64 p, .int .i64 0] 34))
        replace O := O.kept (belowA (w3.alloc (.cells #[.int .i64 x.a, .int .i64 x.b, .int .i64 x.c, .int .i64 x.d, .int .i64 x.e, .int .i64 x.f, .int .i64 x.g, .int .i64 x.h, .int .i64 x.r, .int .i64 p, .int .i64 0] 34)) (.cells #[.int .i64 x.a, .int .i64 x.b, .int .i64 x.c, .int .i64 x.d, .int .i64 x.e, .int .i64 x.f, .int .i64 x.g, .int .i64 x.h, .int .i64 x.r, .int .i64 p, .int .i64 0] 34))
        replace G := grown_alloc G (.cells #[.int .i64 x.a, .int .i64 x.b, .int .i64 x.c, .int .i64 x.d, .int .i64 x.e, .int .i64 x.f, .int .i64 x.g, .int .i64 x.h, .int .i64 x.r, .int .i64 p, .int .i64 0] 34)
        have TL := G.size
        replace G := Hid.mk G
        replace S3 := Hid.mk S3
        go_wp2_with (at_builtin; go_loud (refine wpList_putRule _ rfl _ _ rfl w.heap.size (some ⟨c, 0, none⟩) d xs j hl'.out rfl O _ 1 ⟨x, p, 0⟩ rfl (fun j u hu => by have h := newCells (w3.alloc (.cells #[.int .i64 x.a, .int .i64 x.b, .int .i64 x.c, .int .i64 x.d, .int .i64 x.e, .int .i64 x.f, .int .i64 x.g, .int .i64 x.h, .int .i64 x.r, .int .i64 p, .int .i64 0] 34)) 34 (rowRule ⟨x, p, 0⟩) j u hu; simp only [World.size_alloc] at h; exact h) (by omega) TL ?_))
        intro c4 d4 w5 O5 hg5 hx5
        obtain ⟨c5, rfl, _, _⟩ := hx5.out
        replace S3 := S3.out.grownAway hg5 (fun k hk => by simp at hk; omega)
        replace G := grownOwnR G.out hg5 (fun k hk => by simp at hk; omega)
        have hl5 : (xs ++ [(⟨x, p, 0⟩ : R11)]).length = j + 1 := by rw [List.length_append, hl'.out]; rfl
        replace O5 := Hid.mk O5
        replace S3 := Hid.mk S3
        replace G := Hid.mk G
        replace hl5 := Hid.mk hl5
        clear O hg5 hx5 TL
        go_wp2
        go_roundw
        case rel => exact ⟨j + 1, d4, c5, _, q2 + 1, by omega, by go_num, rfl, hl5.out, O5.out, by omega, S3.out, G.out⟩
        case measure => simp [intOf]; omega
    · obtain rfl : j = m := by omega
      have hz : (j : Int) - (j : Int) ≤ 0 := by omega
      have hz2 : (j : Int) - (j : Int) = 0 := by omega
      rw [hz2]
      have O' := Hid.mk O
      have S' := Hid.mk S
      have G' := Hid.mk G
      have hl' := Hid.mk hl
      clear O S G hl hz hz2 hlt hj
      go_wp2
      go_ret
      exact ⟨c, d, xs, q, rfl, hl'.out, O'.out, hq, S'.out, G'.out⟩

end Go.Proofs.YtngkahchhioncaaDoor

/- The draws of two selectors. -/
namespace Go.Proofs.YtngkahchhioncaaDoor
open Go.RowKit

theorem extractP0 (u v : Value) (w : World) : (Instr.extract (.tuple #[u, v]) 0).run Tryd.prog w = .ok u w := by kernel_rfl

theorem extractP1 (u v : Value) (w : World) : (Instr.extract (.tuple #[u, v]) 1).run Tryd.prog w = .ok v w := by kernel_rfl

end Go.Proofs.YtngkahchhioncaaDoor

/- The draws of policies that may be bent. -/
namespace Go.Proofs.YtngkahchhioncaaDoor
open Go.RowKit

set_option maxRecDepth 20000 in
set_option maxHeartbeats 8000000 in
theorem l4Bent_ok (B : Nat) (a : Option Addr) (n ca : Nat) (zs : List Int) (t : Nat) (w : World) (hs : Src w B a n ca zs t) (hb : Bytes zs) (hn : zs.length = n) (hx : n ≤ 1048577) (ht : t ≤ 100) :
    Calls Tryd.prog 63 #[.pointer (some ⟨B, 0, none⟩)] w fun e w' => ∃ (c d m : Nat) (xs : List R11) (q : Nat), e = .returned (.slice (some ⟨c, 0, none⟩) m d) ∧ m ≤ 21 ∧ xs.length = m ∧ OwnRule w' w.heap.size (some ⟨c, 0, none⟩) d xs ∧ q ≤ t + 950 ∧ Src w' B a n ca zs q ∧ w.grownBy w' (some B) := by
  have hBw : B < w.heap.size := hs.1.1
  go_enter Tryd.func63, Tryd.ntmps63
  have S := hs.kept (belowA w (.cells #[.int .i64 1, .int .i64 2, .int .i64 3, .int .i64 4, .int .i64 5, .int .i64 0, .int .i64 20] 2))
  have G := grown_alloc (World.grownBy.refl w (some B)) (.cells #[.int .i64 1, .int .i64 2, .int .i64 3, .int .i64 4, .int .i64 5, .int .i64 0, .int .i64 20] 2)
  go_wp2_with fail
  refine (l1Pick_ok B a n ca zs t w.heap.size 7 7 [1, 2, 3, 4, 5, 0, 20] _ S hb hn hx (by omega) rfl (by omega) (by omega) (fun i hi => ?_) (by omega)).mono ?_
  · exact lit_cells w [1, 2, 3, 4, 5, 0, 20] _ _ (by simp) i hi
  rintro e w1 ⟨x, rfl, hmem, S1, g1⟩
  have hx1 : 0 ≤ x ∧ x ≤ 20 := by
    simp at hmem
    rcases hmem with rfl | rfl | rfl | rfl | rfl | rfl | rfl <;> omega
  obtain ⟨x1, x2⟩ := hx1
  obtain ⟨m, rfl⟩ := Int.eq_ofNat_of_zero_le x1
  have hm20 : m ≤ 20 := by omega
  clear hmem x1 x2
  replace G := grownBy_trans G g1
  have hGz := G.size
  clear S g1 hs
  go_wp2_with fail
  refine (l4Policy_ok B a n ca zs (t + 1) m _ S1 hb hn hx (by omega) hm20).mono ?_
  rintro e w2 ⟨c, d, xs, q, rfl, hl, O, hq, S2, g2⟩
  replace O := O.mono hGz
  replace G := grownBy_trans G g2
  clear S1 g2
  by_cases h0 : m = 0
  · subst h0
    have O' := Hid.mk O
    have S' := Hid.mk S2
    have G' := Hid.mk G
    have hl' := Hid.mk hl
    clear O S2 G hl
    go_wp2
    go_ret
    exact ⟨c, d, 0, xs, q, rfl, by omega, hl'.out, O'.out, by omega, S'.out, G'.out⟩
  have hm0 : ((m : Int) == 0) = false := by simp; omega
  have hmp : 1 ≤ m := by omega
  have hl' := Hid.mk hl
  clear hl h0
  have O' := Hid.mk O
  clear O
  go_wp2_with fail
  refine (l1Next_ok B a n ca zs q (m : Int) _ S2 hb hn hx (by omega) (by omega)).mono ?_
  rintro e w3 ⟨v, rfl, hv, _, S3, g3⟩
  obtain ⟨hv1, hv2⟩ := hv (by omega)
  obtain ⟨i, rfl⟩ := Int.eq_ofNat_of_zero_le hv1
  have him : i < m := by omega
  have O := O'.out.grown g3 (fun b hb => by have := (O'.out.lt b hb).1; simp; omega)
  replace G := grownBy_trans G g3
  clear S2 g3 O' hv hv1
  have O' := Hid.mk O
  clear O
  go_wp2_with fail
  refine (l1Next_ok B a n ca zs (q + 1) 20 _ S3 hb hn hx (by omega) (by omega)).mono ?_
  rintro e w4 ⟨u, rfl, hu, _, S4, g4⟩
  obtain ⟨hu1, hu2⟩ := hu (by omega)
  have O := O'.out.grown g4 (fun b hb => by have := (O'.out.lt b hb).1; simp; omega)
  replace G := grownBy_trans G g4
  clear S3 g4 O' hu
  have hcw := O.lt ⟨c, 0, none⟩ rfl
  simp only at hcw
  have hi1 : (i : Int) < (m : Int) := by omega
  rcases (by omega : u = 0 ∨ u = 1 ∨ u = 2 ∨ u = 3 ∨ 4 ≤ u) with rfl | rfl | rfl | rfl | hu3
  · have O' := Hid.mk O
    clear O
    go_wp2_with fail
    refine (l3Bent_ok B a n ca zs (q + 1 + 1) _ S4 hb hn hx (by omega)).mono ?_
    rintro e w5 ⟨xa, xb, xc, xd, xe, xf, xg, xh, xr, q5, rfl, hq5, S5, g5⟩
    have O := O'.out.grown g5 (fun b hb => by have := (O'.out.lt b hb).1; simp; omega)
    replace G := grownBy_trans G g5
    clear S4 g5 O'
    have zF := fun o => World.ownsRow.frozenAt O o
    obtain ⟨y, hy⟩ : ∃ y, xs.getD i zRule = y := ⟨_, rfl⟩
    obtain ⟨p0, p1, p2, p3, p4, p5, p6, p7, p8, p9, p10⟩ := RdRule.at O.rd i (by rw [hl'.out]; exact him) y hy
    simp only [Nat.zero_add] at p0 p1 p2 p3 p4 p5 p6 p7 p8 p9 p10
    clear hy
    have O0 := O.poke i 0 (by (try simp only [List.length_set]); rw [hl'.out]; exact him) (by decide) xa
    have O1 := O0.poke i 1 (by (try simp only [List.length_set]); rw [hl'.out]; exact him) (by decide) xb
    have O2 := O1.poke i 2 (by (try simp only [List.length_set]); rw [hl'.out]; exact him) (by decide) xc
    have O3 := O2.poke i 3 (by (try simp only [List.length_set]); rw [hl'.out]; exact him) (by decide) xd
    have O4 := O3.poke i 4 (by (try simp only [List.length_set]); rw [hl'.out]; exact him) (by decide) xe
    have O5 := O4.poke i 5 (by (try simp only [List.length_set]); rw [hl'.out]; exact him) (by decide) xf
    have O6 := O5.poke i 6 (by (try simp only [List.length_set]); rw [hl'.out]; exact him) (by decide) xg
    have O7 := O6.poke i 7 (by (try simp only [List.length_set]); rw [hl'.out]; exact him) (by decide) xh
    have O8 := O7.poke i 8 (by (try simp only [List.length_set]); rw [hl'.out]; exact him) (by decide) xr
    have OZ := Hid.mk O8
    have S' := Hid.mk S5
    have G' := Hid.mk G
    clear O0 O1 O2 O3 O4 O5 O6 O7 O8 O S5 G
    go_wp2
    go_ret
    refine ⟨c, d, m, _, q5, rfl, by omega, ?_, OZ.out, by omega, (((((((((S'.out.other (by simp; omega) _).other (by simp; omega) _).other (by simp; omega) _).other (by simp; omega) _).other (by simp; omega) _).other (by simp; omega) _).other (by simp; omega) _).other (by simp; omega) _).other (by simp; omega) _), (grownSet' (grownSet' (grownSet' (grownSet' (grownSet' (grownSet' (grownSet' (grownSet' (grownSet' G'.out (by simp; omega) _) (by simp; omega) _) (by simp; omega) _) (by simp; omega) _) (by simp; omega) _) (by simp; omega) _) (by simp; omega) _) (by simp; omega) _) (by simp; omega) _)⟩
    simp only [List.length_set]
    exact hl'.out
  · have O' := Hid.mk O
    clear O
    have S4' := S4.kept (belowA w4 (.cells #[.int .i64 0, .int .i64 4, .int .i64 1, .int .i64 3] 2))
    have O4' := Hid.mk (O'.out.kept (belowA w4 (.cells #[.int .i64 0, .int .i64 4, .int .i64 1, .int .i64 3] 2)))
    replace G := grown_alloc G (.cells #[.int .i64 0, .int .i64 4, .int .i64 1, .int .i64 3] 2)
    go_wp2_with fail
    refine (l1Pick_ok B a n ca zs (q + 1 + 1) w4.heap.size 4 4 [0, 4, 1, 3] _ S4' hb hn hx (by omega) rfl (by omega) (by omega) (fun i hi => ?_) (by have := S4.1.1; omega)).mono ?_
    · exact lit_cells w4 [0, 4, 1, 3] _ _ (by simp) i hi
    rintro e w5 ⟨z, rfl, _, S5, g5⟩
    have O := O4'.out.grown g5 (fun b hb => by have := (O4'.out.lt b hb).1; simp; omega)
    clear S4' O4'
    replace G := grownBy_trans G g5
    clear S4 g5 O'
    have zF := fun o => World.ownsRow.frozenAt O o
    obtain ⟨y, hy⟩ : ∃ y, xs.getD i zRule = y := ⟨_, rfl⟩
    obtain ⟨p0, p1, p2, p3, p4, p5, p6, p7, p8, p9, p10⟩ := RdRule.at O.rd i (by rw [hl'.out]; exact him) y hy
    simp only [Nat.zero_add] at p0 p1 p2 p3 p4 p5 p6 p7 p8 p9 p10
    clear hy
    have O0 := O.poke i 9 (by (try simp only [List.length_set]); rw [hl'.out]; exact him) (by decide) z
    have OZ := Hid.mk O0
    have S' := Hid.mk S5
    have G' := Hid.mk G
    clear O0 O S5 G
    go_wp2
    go_ret
    refine ⟨c, d, m, _, q + 1 + 1 + 1, rfl, by omega, ?_, OZ.out, by omega, (S'.out.other (by simp; omega) _), (grownSet' G'.out (by simp; omega) _)⟩
    simp only [List.length_set]
    exact hl'.out
  · have O' := Hid.mk O
    clear O
    have S4' := S4.kept (belowA w4 (.cells #[.int .i64 0, .int .i64 10, .int .i64 5] 2))
    have O4' := Hid.mk (O'.out.kept (belowA w4 (.cells #[.int .i64 0, .int .i64 10, .int .i64 5] 2)))
    replace G := grown_alloc G (.cells #[.int .i64 0, .int .i64 10, .int .i64 5] 2)
    go_wp2_with fail
    refine (l1Pick_ok B a n ca zs (q + 1 + 1) w4.heap.size 3 3 [0, 10, 5] _ S4' hb hn hx (by omega) rfl (by omega) (by omega) (fun i hi => ?_) (by have := S4.1.1; omega)).mono ?_
    · exact lit_cells w4 [0, 10, 5] _ _ (by simp) i hi
    rintro e w5 ⟨z, rfl, _, S5, g5⟩
    have O := O4'.out.grown g5 (fun b hb => by have := (O4'.out.lt b hb).1; simp; omega)
    clear S4' O4'
    replace G := grownBy_trans G g5
    clear S4 g5 O'
    have zF := fun o => World.ownsRow.frozenAt O o
    obtain ⟨y, hy⟩ : ∃ y, xs.getD i zRule = y := ⟨_, rfl⟩
    obtain ⟨p0, p1, p2, p3, p4, p5, p6, p7, p8, p9, p10⟩ := RdRule.at O.rd i (by rw [hl'.out]; exact him) y hy
    simp only [Nat.zero_add] at p0 p1 p2 p3 p4 p5 p6 p7 p8 p9 p10
    clear hy
    have O0 := O.poke i 10 (by (try simp only [List.length_set]); rw [hl'.out]; exact him) (by decide) z
    have OZ := Hid.mk O0
    have S' := Hid.mk S5
    have G' := Hid.mk G
    clear O0 O S5 G
    go_wp2
    go_ret
    refine ⟨c, d, m, _, q + 1 + 1 + 1, rfl, by omega, ?_, OZ.out, by omega, (S'.out.other (by simp; omega) _), (grownSet' G'.out (by simp; omega) _)⟩
    simp only [List.length_set]
    exact hl'.out
  · have S' := Hid.mk S4
    have G' := Hid.mk G
    have hGz4 := G.size
    clear O S4 G
    obtain ⟨i0, hi, hz0, hz1, hz2⟩ := info_parts Tryd.infoRule
    go_wp2_with (at_make; refine wpList_make_full _ rfl _ _ 24 rfl w4.heap.size 34 i0 (.agg #[.int .i64 0, .int .i64 0, .int .i64 0, .int .i64 0, .int .i64 0, .int .i64 0, .int .i64 0, .int .i64 0, .int .i64 0, .int .i64 0, .int .i64 0]) 11 Tryd.underlying24 hi hz0 hz1 .i64 .i64 _ _ 21 rfl rfl rfl rfl (by rw [hz2]; omega) (by unfold maxLen; omega) (Nat.le_refl _) ?_)
    intro w5 hown hgrow
    have hown0 : w5.ownsRow w4.heap.size 34 11 (.slice (some ⟨w4.heap.size, 0, none⟩) 21 21) 21 (flatRule (List.replicate 21 zRule)) := by
      rw [zerosRule, ← madeRule]
      exact hown
    have OZ := Hid.mk (OwnRule.mono (base' := w.heap.size) (show OwnRule w5 w4.heap.size (some ⟨w4.heap.size, 0, none⟩) 21 (List.replicate 21 zRule) by unfold OwnRule; rw [List.length_replicate]; exact hown0) hGz4)
    have hbel : Below w4.heap.size w4 w5 := (Below.refl _ _).grown hgrow (Nat.le_refl _) (by intro k hk; cases hk)
    have S5 := Hid.mk (S'.out.kept hbel)
    have G5 := Hid.mk (grownBy_trans G'.out (Below.grownBy hbel _))
    clear hown hgrow hown0 hbel
    go_wp2
    go_ret
    exact ⟨w4.heap.size, 21, 21, _, q + 1 + 1, rfl, by omega, List.length_replicate, OZ.out, by omega, S5.out, G5.out⟩
  · have O' := Hid.mk O
    have S' := Hid.mk S4
    have G' := Hid.mk G
    have hu4 : (u == 0) = false := by simp; omega
    have hu5 : (u == 1) = false := by simp; omega
    have hu6 : (u == 2) = false := by simp; omega
    have hu7 : (u == 3) = false := by simp; omega
    clear O S4 G
    go_wp2
    go_ret
    exact ⟨c, d, m, xs, q + 1 + 1, rfl, by omega, hl'.out, O'.out, by omega, S'.out, G'.out⟩

end Go.Proofs.YtngkahchhioncaaDoor

/- 'SampleOf' of the model, and the law's walk. -/
namespace Go.Proofs.YtngkahchhioncaaDoor
open Go.RowKit

set_option maxHeartbeats 1000000 in
theorem l2BadS_ok (k : Int) (w : World) :
    Calls Tryd.prog 130 #[.int .i64 k] w fun e w' => e = .returned (.agg #[.int .i64 k, .int .i64 0, .int .i64 0, .int .i64 0, .int .i64 0, .int .i64 0, .int .i64 0, .slice none 0 0]) ∧ Below w.heap.size w w' := by
  have q0 := build_pr0
  go_enter Tryd.func130, Tryd.ntmps130
  have B := Below.refl w.heap.size w
  have Bo := B
  go_wp2
  refine bodyPost_ret (v := .agg #[.int .i64 k, .int .i64 0, .int .i64 0, .int .i64 0, .int .i64 0, .int .i64 0, .int .i64 0, .slice none 0 0]) (by first | (simp [results, Tryd.results130, go_sem]; done) | simp [results, Tryd.results130, go_sem, q0]) rfl ⟨rfl, ?_⟩
  repeat' first | with_reducible exact Bo | with_reducible exact Below.refl _ _ | with_reducible refine Below.setCell ?_ ?_ _ | with_reducible refine Below.alloc ?_ ?_ _ | with_reducible refine Below.drew ?_ | (simp; done) | (simp; omega)

set_option maxHeartbeats 2000000 in
theorem specSmp0 (x : S9) (w : World) (h1 : (sfC x != 0) = true) :
    Calls Tryd.prog 99 #[.agg #[.int .i64 x.a, .int .i64 x.b, .int .i64 x.c, .int .i64 x.d, .int .i64 x.e, .int .i64 x.f, .int .i64 x.g, .int .i64 x.h, .int .i64 x.r]] w fun e w' => e = .returned (.agg #[.int .i64 (sfC x), .int .i64 0, .int .i64 0, .int .i64 0, .int .i64 0, .int .i64 0, .int .i64 0, .slice none 0 0]) ∧ Below w.heap.size w w' := by
  have q0 := build_pr0
  have q1 := build_pr1
  have q2 := build_pk4
  have CX := Hid.mk (fun w => specSelFault_ok x w)
  go_enter Tryd.func99, Tryd.ntmps99
  have B := Below.refl w.heap.size w
  replace B := thenB B (belowA w (.cells #[.int .i64 x.a, .int .i64 x.b, .int .i64 x.c, .int .i64 x.d, .int .i64 x.e, .int .i64 x.f, .int .i64 x.g, .int .i64 x.h, .int .i64 x.r] 32))
  have VX := V.new w [.int .i64 x.a, .int .i64 x.b, .int .i64 x.c, .int .i64 x.d, .int .i64 x.e, .int .i64 x.f, .int .i64 x.g, .int .i64 x.h, .int .i64 x.r] 32
  replace VX := VX.kept (belowA (w.alloc (.cells #[.int .i64 x.a, .int .i64 x.b, .int .i64 x.c, .int .i64 x.d, .int .i64 x.e, .int .i64 x.f, .int .i64 x.g, .int .i64 x.h, .int .i64 x.r] 32)) (.cells #[.int .i64 0, .int .i64 0, .int .i64 0, .int .i64 0, .int .i64 0, .int .i64 0, .int .i64 0, .slice none 0 0] 54))
  replace B := thenB B (belowA (w.alloc (.cells #[.int .i64 x.a, .int .i64 x.b, .int .i64 x.c, .int .i64 x.d, .int .i64 x.e, .int .i64 x.f, .int .i64 x.g, .int .i64 x.h, .int .i64 x.r] 32)) (.cells #[.int .i64 0, .int .i64 0, .int .i64 0, .int .i64 0, .int .i64 0, .int .i64 0, .int .i64 0, .slice none 0 0] 54))
  have VR : V ((w.alloc (.cells #[.int .i64 x.a, .int .i64 x.b, .int .i64 x.c, .int .i64 x.d, .int .i64 x.e, .int .i64 x.f, .int .i64 x.g, .int .i64 x.h, .int .i64 x.r] 32)).alloc (.cells #[.int .i64 0, .int .i64 0, .int .i64 0, .int .i64 0, .int .i64 0, .int .i64 0, .int .i64 0, .slice none 0 0] 54)) (w.heap.size + 1) [.int .i64 0, .int .i64 0, .int .i64 0, .int .i64 0, .int .i64 0, .int .i64 0, .int .i64 0, .slice none 0 0] := V.newAt _ _ _ _ (by simp)
  obtain ⟨s_VX, f_VX, z_VX⟩ := VX.open
  obtain ⟨s_VR, f_VR, z_VR⟩ := VR.open
  go_wp2_with fail
  refine (CX.out _).mono ?_
  rintro e w1 ⟨rfl, b1⟩
  clear s_VX f_VX z_VX s_VR f_VR z_VR
  have S1 := b1.size
  simp only [World.size_alloc] at S1
  replace VX := VX.kept b1
  replace VR := VR.kept b1
  replace B := thenB B b1
  clear b1
  obtain ⟨s_VX, f_VX, z_VX⟩ := VX.open
  obtain ⟨s_VR, f_VR, z_VR⟩ := VR.open
  have Bo := B
  go_wp2_with fail
  refine (l2BadS_ok (sfC x) _).mono ?_
  rintro e w2 ⟨rfl, b2⟩
  clear s_VX f_VX z_VX s_VR f_VR z_VR
  have S2 := b2.size
  replace VX := VX.kept b2
  replace VR := VR.kept b2
  replace B := thenB B b2
  clear b2
  obtain ⟨s_VX, f_VX, z_VX⟩ := VX.open
  obtain ⟨s_VR, f_VR, z_VR⟩ := VR.open
  have Bo := B
  go_wp2
  refine bodyPost_ret (v := .agg #[.int .i64 (sfC x), .int .i64 0, .int .i64 0, .int .i64 0, .int .i64 0, .int .i64 0, .int .i64 0, .slice none 0 0]) (by first | (simp [results, Tryd.results99, go_sem]; done) | simp [results, Tryd.results99, go_sem, f_VR]) rfl ⟨rfl, ?_⟩
  repeat' first | with_reducible exact Bo | with_reducible exact Below.refl _ _ | with_reducible refine Below.setCell ?_ ?_ _ | with_reducible refine Below.alloc ?_ ?_ _ | with_reducible refine Below.drew ?_ | (simp; done) | (simp; omega)

set_option maxHeartbeats 2000000 in
theorem specSmp1 (x : S9) (w : World) (h1 : sfC x = 0) (h2 : (x.r == 0) = true) :
    Calls Tryd.prog 99 #[.agg #[.int .i64 x.a, .int .i64 x.b, .int .i64 x.c, .int .i64 x.d, .int .i64 x.e, .int .i64 x.f, .int .i64 x.g, .int .i64 x.h, .int .i64 x.r]] w fun e w' => e = .returned (.agg #[.int .i64 0, .int .i64 x.a, .int .i64 x.c, .int .i64 6, .int .i64 64, .int .i64 x.e, .int .i64 x.g, .slice none 0 0]) ∧ Below w.heap.size w w' := by
  have q0 := build_pr0
  have q1 := build_pr1
  have q2 := build_pk4
  have CX := Hid.mk (fun w => specSelFault_ok x w)
  rw [h1] at CX
  clear h1
  have h3 : portsP 6 = true := by rw [portsP_iff]; exact .inl rfl
  go_enter Tryd.func99, Tryd.ntmps99
  have B := Below.refl w.heap.size w
  replace B := thenB B (belowA w (.cells #[.int .i64 x.a, .int .i64 x.b, .int .i64 x.c, .int .i64 x.d, .int .i64 x.e, .int .i64 x.f, .int .i64 x.g, .int .i64 x.h, .int .i64 x.r] 32))
  have VX := V.new w [.int .i64 x.a, .int .i64 x.b, .int .i64 x.c, .int .i64 x.d, .int .i64 x.e, .int .i64 x.f, .int .i64 x.g, .int .i64 x.h, .int .i64 x.r] 32
  replace VX := VX.kept (belowA (w.alloc (.cells #[.int .i64 x.a, .int .i64 x.b, .int .i64 x.c, .int .i64 x.d, .int .i64 x.e, .int .i64 x.f, .int .i64 x.g, .int .i64 x.h, .int .i64 x.r] 32)) (.cells #[.int .i64 0, .int .i64 0, .int .i64 0, .int .i64 0, .int .i64 0, .int .i64 0, .int .i64 0, .slice none 0 0] 54))
  replace B := thenB B (belowA (w.alloc (.cells #[.int .i64 x.a, .int .i64 x.b, .int .i64 x.c, .int .i64 x.d, .int .i64 x.e, .int .i64 x.f, .int .i64 x.g, .int .i64 x.h, .int .i64 x.r] 32)) (.cells #[.int .i64 0, .int .i64 0, .int .i64 0, .int .i64 0, .int .i64 0, .int .i64 0, .int .i64 0, .slice none 0 0] 54))
  have VR : V ((w.alloc (.cells #[.int .i64 x.a, .int .i64 x.b, .int .i64 x.c, .int .i64 x.d, .int .i64 x.e, .int .i64 x.f, .int .i64 x.g, .int .i64 x.h, .int .i64 x.r] 32)).alloc (.cells #[.int .i64 0, .int .i64 0, .int .i64 0, .int .i64 0, .int .i64 0, .int .i64 0, .int .i64 0, .slice none 0 0] 54)) (w.heap.size + 1) [.int .i64 0, .int .i64 0, .int .i64 0, .int .i64 0, .int .i64 0, .int .i64 0, .int .i64 0, .slice none 0 0] := V.newAt _ _ _ _ (by simp)
  obtain ⟨s_VX, f_VX, z_VX⟩ := VX.open
  obtain ⟨s_VR, f_VR, z_VR⟩ := VR.open
  go_wp2_with fail
  refine (CX.out _).mono ?_
  rintro e w1 ⟨rfl, b1⟩
  clear s_VX f_VX z_VX s_VR f_VR z_VR
  have S1 := b1.size
  simp only [World.size_alloc] at S1
  replace VX := VX.kept b1
  replace VR := VR.kept b1
  replace B := thenB B b1
  clear b1
  obtain ⟨s_VX, f_VX, z_VX⟩ := VX.open
  obtain ⟨s_VR, f_VR, z_VR⟩ := VR.open
  have Bo := B
  go_wp2_with (first | (go_at_call 119; refine (specHasPorts_ok _ _).mono ?_; rintro e wq ⟨rfl, rfl⟩) | fail)
  refine bodyPost_ret (v := .agg #[.int .i64 0, .int .i64 x.a, .int .i64 x.c, .int .i64 6, .int .i64 64, .int .i64 x.e, .int .i64 x.g, .slice none 0 0]) (by first | (simp [results, Tryd.results99, go_sem]; done) | simp [results, Tryd.results99, go_sem, f_VR, s_VR]) rfl ⟨rfl, ?_⟩
  repeat' first | with_reducible exact Bo | with_reducible exact Below.refl _ _ | with_reducible refine Below.setCell ?_ ?_ _ | with_reducible refine Below.alloc ?_ ?_ _ | with_reducible refine Below.drew ?_ | (simp; done) | (simp; omega)

set_option maxHeartbeats 2000000 in
theorem specSmp2 (x : S9) (w : World) (h1 : sfC x = 0) (h2 : (x.r == 0) = false) (h3 : portsP x.r = true) :
    Calls Tryd.prog 99 #[.agg #[.int .i64 x.a, .int .i64 x.b, .int .i64 x.c, .int .i64 x.d, .int .i64 x.e, .int .i64 x.f, .int .i64 x.g, .int .i64 x.h, .int .i64 x.r]] w fun e w' => e = .returned (.agg #[.int .i64 0, .int .i64 x.a, .int .i64 x.c, .int .i64 x.r, .int .i64 64, .int .i64 x.e, .int .i64 x.g, .slice none 0 0]) ∧ Below w.heap.size w w' := by
  have q0 := build_pr0
  have q1 := build_pr1
  have q2 := build_pk4
  have CX := Hid.mk (fun w => specSelFault_ok x w)
  rw [h1] at CX
  clear h1
  go_enter Tryd.func99, Tryd.ntmps99
  have B := Below.refl w.heap.size w
  replace B := thenB B (belowA w (.cells #[.int .i64 x.a, .int .i64 x.b, .int .i64 x.c, .int .i64 x.d, .int .i64 x.e, .int .i64 x.f, .int .i64 x.g, .int .i64 x.h, .int .i64 x.r] 32))
  have VX := V.new w [.int .i64 x.a, .int .i64 x.b, .int .i64 x.c, .int .i64 x.d, .int .i64 x.e, .int .i64 x.f, .int .i64 x.g, .int .i64 x.h, .int .i64 x.r] 32
  replace VX := VX.kept (belowA (w.alloc (.cells #[.int .i64 x.a, .int .i64 x.b, .int .i64 x.c, .int .i64 x.d, .int .i64 x.e, .int .i64 x.f, .int .i64 x.g, .int .i64 x.h, .int .i64 x.r] 32)) (.cells #[.int .i64 0, .int .i64 0, .int .i64 0, .int .i64 0, .int .i64 0, .int .i64 0, .int .i64 0, .slice none 0 0] 54))
  replace B := thenB B (belowA (w.alloc (.cells #[.int .i64 x.a, .int .i64 x.b, .int .i64 x.c, .int .i64 x.d, .int .i64 x.e, .int .i64 x.f, .int .i64 x.g, .int .i64 x.h, .int .i64 x.r] 32)) (.cells #[.int .i64 0, .int .i64 0, .int .i64 0, .int .i64 0, .int .i64 0, .int .i64 0, .int .i64 0, .slice none 0 0] 54))
  have VR : V ((w.alloc (.cells #[.int .i64 x.a, .int .i64 x.b, .int .i64 x.c, .int .i64 x.d, .int .i64 x.e, .int .i64 x.f, .int .i64 x.g, .int .i64 x.h, .int .i64 x.r] 32)).alloc (.cells #[.int .i64 0, .int .i64 0, .int .i64 0, .int .i64 0, .int .i64 0, .int .i64 0, .int .i64 0, .slice none 0 0] 54)) (w.heap.size + 1) [.int .i64 0, .int .i64 0, .int .i64 0, .int .i64 0, .int .i64 0, .int .i64 0, .int .i64 0, .slice none 0 0] := V.newAt _ _ _ _ (by simp)
  obtain ⟨s_VX, f_VX, z_VX⟩ := VX.open
  obtain ⟨s_VR, f_VR, z_VR⟩ := VR.open
  go_wp2_with fail
  refine (CX.out _).mono ?_
  rintro e w1 ⟨rfl, b1⟩
  clear s_VX f_VX z_VX s_VR f_VR z_VR
  have S1 := b1.size
  simp only [World.size_alloc] at S1
  replace VX := VX.kept b1
  replace VR := VR.kept b1
  replace B := thenB B b1
  clear b1
  obtain ⟨s_VX, f_VX, z_VX⟩ := VX.open
  obtain ⟨s_VR, f_VR, z_VR⟩ := VR.open
  have Bo := B
  go_wp2_with (first | (go_at_call 119; refine (specHasPorts_ok _ _).mono ?_; rintro e wq ⟨rfl, rfl⟩) | fail)
  refine bodyPost_ret (v := .agg #[.int .i64 0, .int .i64 x.a, .int .i64 x.c, .int .i64 x.r, .int .i64 64, .int .i64 x.e, .int .i64 x.g, .slice none 0 0]) (by first | (simp [results, Tryd.results99, go_sem]; done) | simp [results, Tryd.results99, go_sem, f_VR, s_VR]) rfl ⟨rfl, ?_⟩
  repeat' first | with_reducible exact Bo | with_reducible exact Below.refl _ _ | with_reducible refine Below.setCell ?_ ?_ _ | with_reducible refine Below.alloc ?_ ?_ _ | with_reducible refine Below.drew ?_ | (simp; done) | (simp; omega)

set_option maxHeartbeats 2000000 in
theorem specSmp3 (x : S9) (w : World) (h1 : sfC x = 0) (h2 : (x.r == 0) = false) (h3 : portsP x.r = false) :
    Calls Tryd.prog 99 #[.agg #[.int .i64 x.a, .int .i64 x.b, .int .i64 x.c, .int .i64 x.d, .int .i64 x.e, .int .i64 x.f, .int .i64 x.g, .int .i64 x.h, .int .i64 x.r]] w fun e w' => e = .returned (.agg #[.int .i64 0, .int .i64 x.a, .int .i64 x.c, .int .i64 x.r, .int .i64 64, .int .i64 0, .int .i64 0, .slice none 0 0]) ∧ Below w.heap.size w w' := by
  have q0 := build_pr0
  have q1 := build_pr1
  have q2 := build_pk4
  have CX := Hid.mk (fun w => specSelFault_ok x w)
  rw [h1] at CX
  clear h1
  go_enter Tryd.func99, Tryd.ntmps99
  have B := Below.refl w.heap.size w
  replace B := thenB B (belowA w (.cells #[.int .i64 x.a, .int .i64 x.b, .int .i64 x.c, .int .i64 x.d, .int .i64 x.e, .int .i64 x.f, .int .i64 x.g, .int .i64 x.h, .int .i64 x.r] 32))
  have VX := V.new w [.int .i64 x.a, .int .i64 x.b, .int .i64 x.c, .int .i64 x.d, .int .i64 x.e, .int .i64 x.f, .int .i64 x.g, .int .i64 x.h, .int .i64 x.r] 32
  replace VX := VX.kept (belowA (w.alloc (.cells #[.int .i64 x.a, .int .i64 x.b, .int .i64 x.c, .int .i64 x.d, .int .i64 x.e, .int .i64 x.f, .int .i64 x.g, .int .i64 x.h, .int .i64 x.r] 32)) (.cells #[.int .i64 0, .int .i64 0, .int .i64 0, .int .i64 0, .int .i64 0, .int .i64 0, .int .i64 0, .slice none 0 0] 54))
  replace B := thenB B (belowA (w.alloc (.cells #[.int .i64 x.a, .int .i64 x.b, .int .i64 x.c, .int .i64 x.d, .int .i64 x.e, .int .i64 x.f, .int .i64 x.g, .int .i64 x.h, .int .i64 x.r] 32)) (.cells #[.int .i64 0, .int .i64 0, .int .i64 0, .int .i64 0, .int .i64 0, .int .i64 0, .int .i64 0, .slice none 0 0] 54))
  have VR : V ((w.alloc (.cells #[.int .i64 x.a, .int .i64 x.b, .int .i64 x.c, .int .i64 x.d, .int .i64 x.e, .int .i64 x.f, .int .i64 x.g, .int .i64 x.h, .int .i64 x.r] 32)).alloc (.cells #[.int .i64 0, .int .i64 0, .int .i64 0, .int .i64 0, .int .i64 0, .int .i64 0, .int .i64 0, .slice none 0 0] 54)) (w.heap.size + 1) [.int .i64 0, .int .i64 0, .int .i64 0, .int .i64 0, .int .i64 0, .int .i64 0, .int .i64 0, .slice none 0 0] := V.newAt _ _ _ _ (by simp)
  obtain ⟨s_VX, f_VX, z_VX⟩ := VX.open
  obtain ⟨s_VR, f_VR, z_VR⟩ := VR.open
  go_wp2_with fail
  refine (CX.out _).mono ?_
  rintro e w1 ⟨rfl, b1⟩
  clear s_VX f_VX z_VX s_VR f_VR z_VR
  have S1 := b1.size
  simp only [World.size_alloc] at S1
  replace VX := VX.kept b1
  replace VR := VR.kept b1
  replace B := thenB B b1
  clear b1
  obtain ⟨s_VX, f_VX, z_VX⟩ := VX.open
  obtain ⟨s_VR, f_VR, z_VR⟩ := VR.open
  have Bo := B
  go_wp2_with (first | (go_at_call 119; refine (specHasPorts_ok _ _).mono ?_; rintro e wq ⟨rfl, rfl⟩) | fail)
  refine bodyPost_ret (v := .agg #[.int .i64 0, .int .i64 x.a, .int .i64 x.c, .int .i64 x.r, .int .i64 64, .int .i64 0, .int .i64 0, .slice none 0 0]) (by first | (simp [results, Tryd.results99, go_sem]; done) | simp [results, Tryd.results99, go_sem, f_VR, s_VR]) rfl ⟨rfl, ?_⟩
  repeat' first | with_reducible exact Bo | with_reducible exact Below.refl _ _ | with_reducible refine Below.setCell ?_ ?_ _ | with_reducible refine Below.alloc ?_ ?_ _ | with_reducible refine Below.drew ?_ | (simp; done) | (simp; omega)

theorem smp_both (x : S9) : ∃ k f t r l u v : Int, (∀ w, Calls Tryd.prog 99 #[.agg #[.int .i64 x.a, .int .i64 x.b, .int .i64 x.c, .int .i64 x.d, .int .i64 x.e, .int .i64 x.f, .int .i64 x.g, .int .i64 x.h, .int .i64 x.r]] w fun e w' => e = .returned (.agg #[.int .i64 k, .int .i64 f, .int .i64 t, .int .i64 r, .int .i64 l, .int .i64 u, .int .i64 v, .slice none 0 0]) ∧ Below w.heap.size w w') ∧ ∀ w, Calls Tryd.prog 25 #[.agg #[.int .i64 x.a, .int .i64 x.b, .int .i64 x.c, .int .i64 x.d, .int .i64 x.e, .int .i64 x.f, .int .i64 x.g, .int .i64 x.h, .int .i64 x.r]] w fun e w' => e = .returned (.agg #[.int .i64 k, .int .i64 f, .int .i64 t, .int .i64 r, .int .i64 l, .int .i64 u, .int .i64 v, .slice none 0 0]) ∧ Below w.heap.size w w' := by
  by_cases h0 : sfC x = 0
  · by_cases h1 : x.r = 0
    · have h2 : (x.r == 0) = true := by simp [h1]
      exact ⟨_, _, _, _, _, _, _, fun w => specSmp1 x w h0 h2, fun w => implSmp1 x w h0 h2⟩
    · have h2 : (x.r == 0) = false := by simp [h1]
      cases h3 : portsP x.r
      · obtain ⟨hf, hb⟩ := sfC_zero h0
        have hbp : bareP x.r = true := by unfold bareP; simp [h1, h3]
        have hw := wholeP_iff.1 (hb hbp)
        exact ⟨_, _, _, _, _, _, _, fun w => specSmp3 x w h0 h2 h3, fun w => (implSmp2 x w h0 h2).mono fun e w' h => ⟨by rw [h.1, hw.1, hw.2.2.1], h.2⟩⟩
      · exact ⟨_, _, _, _, _, _, _, fun w => specSmp2 x w h0 h2 h3, fun w => implSmp2 x w h0 h2⟩
  · have h1 : (sfC x != 0) = true := by simp [h0]
    exact ⟨_, _, _, _, _, _, _, fun w => specSmp0 x w h1, fun w => implSmp0 x w h1⟩

theorem belowNone {w w' : World} (h : w.grownBy w' none) : Below w.heap.size w w' := (Below.refl _ _).grown h (Nat.le_refl _) fun k hk => by cases hk

end Go.Proofs.YtngkahchhioncaaDoor

/- The draws of a policy and a packet; of a policy and a place. -/
namespace Go.Proofs.YtngkahchhioncaaDoor
open Go.RowKit

set_option maxRecDepth 20000 in
set_option maxHeartbeats 8000000 in
theorem l4With_ok (a : Option Addr) (n ca : Nat) (zs : List Int) (w : World) (ha : Rd .u8 w a zs) (hb : Bytes zs) (hn : zs.length = n) (hx : n ≤ 1048577) :
    Calls Tryd.prog 53 #[.slice a n ca] w fun e w' => ∃ (c d m : Nat) (xs : List R11) (f t r l u v : Int) (s : Option Addr) (k g : Nat), e = .returned (.tuple #[.slice (some ⟨c, 0, none⟩) m d, .agg #[.int .i64 f, .int .i64 t, .int .i64 r, .int .i64 l, .int .i64 u, .int .i64 v, .slice s k g]]) ∧ m ≤ 21 ∧ xs.length = m ∧ w.heap.size ≤ c ∧ RdRule w' (some ⟨c, 0, none⟩) xs ∧ Below w.heap.size w w' := by
  go_enter Tryd.func53, Tryd.ntmps53
  have S : Src ((w.alloc (.cells #[.int .i64 0, .int .i64 0, .int .i64 0, .int .i64 0, .int .i64 0, .int .i64 0, .slice none 0 0] 26)).alloc (.cells #[.slice a n ca, .int .i64 0] 147)) (w.heap.size + 1) a n ca zs 0 := by have h := Src.new (w.alloc (.cells #[.int .i64 0, .int .i64 0, .int .i64 0, .int .i64 0, .int .i64 0, .int .i64 0, .slice none 0 0] 26)) a n ca zs 147 (ha.kept (belowA _ _)); simpa only [World.size_alloc] using h
  have V1 : V ((w.alloc (.cells #[.int .i64 0, .int .i64 0, .int .i64 0, .int .i64 0, .int .i64 0, .int .i64 0, .slice none 0 0] 26)).alloc (.cells #[.slice a n ca, .int .i64 0] 147)) w.heap.size [.int .i64 0, .int .i64 0, .int .i64 0, .int .i64 0, .int .i64 0, .int .i64 0, .slice none 0 0] := (V.newAt _ _ _ _ rfl).kept (belowA _ _)
  have G := belowA2 w (.cells #[.int .i64 0, .int .i64 0, .int .i64 0, .int .i64 0, .int .i64 0, .int .i64 0, .slice none 0 0] 26) (.cells #[.slice a n ca, .int .i64 0] 147)
  obtain ⟨s_V1, f_V1, z_V1⟩ := V1.open
  go_wp2_with (first | (go_at_call 62; go_in) | fail)
  refine (l4Bent_ok (w.heap.size + 1) a n ca zs 0 _ S hb hn hx (by omega)).mono ?_
  rintro e w1 ⟨c, d, m, xs, q, rfl, hm, hl, O, hq, S1, g1⟩
  clear s_V1 f_V1 z_V1 S
  have hcw := O.lt _ rfl
  simp only [World.size_alloc] at hcw
  have R := O.rd
  replace V1 := V1.grownB g1 (by omega)
  replace G := G.grown g1 (by have := G.size; (try simp at this); (try simp); omega) (by intro k hk; simp at hk; omega)
  clear g1 O
  obtain ⟨s_V1, f_V1, z_V1⟩ := V1.open
  have R' := Hid.mk R
  have hl' := Hid.mk hl
  clear R hl
  go_wp2_with fail
  refine (l2Bent_ok (w.heap.size + 1) a n ca zs q _ S1 hb hn hx (by omega)).mono ?_
  rintro e w2 ⟨f, t', r, l, u, v, c', d', k, ys, rfl, _, _, _, hc, _, g2, q2, hq2, S2⟩
  clear s_V1 f_V1 z_V1
  have hz2 := g2.size
  have R := R'.out.grown g2 (fun b hb => by simp at hb; subst hb; simp; omega)
  replace V1 := V1.grownB g2 (by omega)
  replace G := G.grown g2 (by have := G.size; (try simp at this); (try simp); omega) (by intro k hk; simp at hk; omega)
  clear g2 S1 R'
  replace R := R.kept (belowA w2 (.cells #[.int .i64 f, .int .i64 t', .int .i64 r, .int .i64 l, .int .i64 u, .int .i64 v, .slice (some ⟨c', 0, none⟩) k d'] 26))
  replace V1 := V1.kept (belowA w2 (.cells #[.int .i64 f, .int .i64 t', .int .i64 r, .int .i64 l, .int .i64 u, .int .i64 v, .slice (some ⟨c', 0, none⟩) k d'] 26))
  replace S2 := S2.kept (belowA w2 (.cells #[.int .i64 f, .int .i64 t', .int .i64 r, .int .i64 l, .int .i64 u, .int .i64 v, .slice (some ⟨c', 0, none⟩) k d'] 26))
  replace G := thenB G (belowA w2 (.cells #[.int .i64 f, .int .i64 t', .int .i64 r, .int .i64 l, .int .i64 u, .int .i64 v, .slice (some ⟨c', 0, none⟩) k d'] 26))
  have VP := V.new w2 [.int .i64 f, .int .i64 t', .int .i64 r, .int .i64 l, .int .i64 u, .int .i64 v, .slice (some ⟨c', 0, none⟩) k d'] 26
  have hz3 : w.heap.size + 1 + 1 ≤ w2.heap.size := by omega
  by_cases h0 : m = 0
  · subst h0
    obtain ⟨s_V1, f_V1, z_V1⟩ := V1.open
    obtain ⟨s_VP, f_VP, z_VP⟩ := VP.open
    have g_VP0 := f_VP 0 (by simp)
    have g_VP1 := f_VP 1 (by simp)
    have g_VP2 := f_VP 2 (by simp)
    have g_VP3 := f_VP 3 (by simp)
    have g_VP4 := f_VP 4 (by simp)
    have g_VP5 := f_VP 5 (by simp)
    have g_VP6 := f_VP 6 (by simp)
    have g_V10 := f_V1 0 (by simp)
    have g_V11 := f_V1 1 (by simp)
    have g_V12 := f_V1 2 (by simp)
    have g_V13 := f_V1 3 (by simp)
    have g_V14 := f_V1 4 (by simp)
    have g_V15 := f_V1 5 (by simp)
    have g_V16 := f_V1 6 (by simp)
    simp at g_VP0 g_VP1 g_VP2 g_VP3 g_VP4 g_VP5 g_VP6 g_V10 g_V11 g_V12 g_V13 g_V14 g_V15 g_V16
    clear f_VP f_V1
    have hGz := G.size
    replace G := Hid.mk G
    replace R := Hid.mk R
    go_wp2
    go_region
    all_goals
      go_wp2
      refine bodyPost_ret (v := .tuple #[.slice (some ⟨c, 0, none⟩) _ d, .agg #[.int .i64 f, .int .i64 t', .int .i64 r, .int .i64 l, .int .i64 u, .int .i64 v, .slice (some ⟨c', 0, none⟩) k d']]) (by simp [results, Tryd.results53, go_sem, g_V10, g_V11, g_V12, g_V13, g_V14, g_V15, g_V16]) rfl ⟨c, d, _, xs, f, t', r, l, u, v, some ⟨c', 0, none⟩, k, d', rfl, by omega, hl'.out, by omega, ?_, ?_⟩
      · replace R := R.out
        repeat' first | with_reducible exact R | with_reducible refine RdRule.past ?_ ?_ _ | with_reducible refine RdRule.kept ?_ (Below.refl _ _).drew | (intro b hb; simp at hb; subst hb; simp; omega)
      · replace G := G.out
        repeat' first | with_reducible exact G | with_reducible refine Below.setCell ?_ ?_ _ | with_reducible refine Below.drew ?_ | (simp; done) | (simp; omega) | omega
  have hmp : 0 < (m : Int) := by omega
  obtain ⟨s_V1, f_V1, z_V1⟩ := V1.open
  obtain ⟨s_VP, f_VP, z_VP⟩ := VP.open
  have R' := Hid.mk R
  clear R
  go_wp2_with fail
  refine (l1Chance_ok (w.heap.size + 1) a n ca zs q2 2 _ S2 hb hn hx (by omega) (by omega)).mono ?_
  rintro e w3 ⟨vv, rfl, S3, g3⟩
  clear s_V1 f_V1 z_V1 s_VP f_VP z_VP
  have hz4 := g3.size
  simp only [World.size_alloc] at hz4
  have R := R'.out.grown g3 (fun b hb => by simp at hb; subst hb; simp; omega)
  replace V1 := V1.grownB g3 (by omega)
  replace VP := VP.grownB g3 (by omega)
  replace G := G.grown g3 (by have := G.size; (try simp at this); (try simp); omega) (by intro k hk; simp at hk; omega)
  clear g3 S2 R'
  cases vv
  · obtain ⟨s_V1, f_V1, z_V1⟩ := V1.open
    obtain ⟨s_VP, f_VP, z_VP⟩ := VP.open
    have g_VP0 := f_VP 0 (by simp)
    have g_VP1 := f_VP 1 (by simp)
    have g_VP2 := f_VP 2 (by simp)
    have g_VP3 := f_VP 3 (by simp)
    have g_VP4 := f_VP 4 (by simp)
    have g_VP5 := f_VP 5 (by simp)
    have g_VP6 := f_VP 6 (by simp)
    have g_V10 := f_V1 0 (by simp)
    have g_V11 := f_V1 1 (by simp)
    have g_V12 := f_V1 2 (by simp)
    have g_V13 := f_V1 3 (by simp)
    have g_V14 := f_V1 4 (by simp)
    have g_V15 := f_V1 5 (by simp)
    have g_V16 := f_V1 6 (by simp)
    simp at g_VP0 g_VP1 g_VP2 g_VP3 g_VP4 g_VP5 g_VP6 g_V10 g_V11 g_V12 g_V13 g_V14 g_V15 g_V16
    clear f_VP f_V1
    have hGz := G.size
    replace G := Hid.mk G
    replace R := Hid.mk R
    go_wp2
    go_region
    all_goals
      go_wp2
      refine bodyPost_ret (v := .tuple #[.slice (some ⟨c, 0, none⟩) _ d, .agg #[.int .i64 f, .int .i64 t', .int .i64 r, .int .i64 l, .int .i64 u, .int .i64 v, .slice (some ⟨c', 0, none⟩) k d']]) (by simp [results, Tryd.results53, go_sem, g_V10, g_V11, g_V12, g_V13, g_V14, g_V15, g_V16]) rfl ⟨c, d, _, xs, f, t', r, l, u, v, some ⟨c', 0, none⟩, k, d', rfl, by omega, hl'.out, by omega, ?_, ?_⟩
      · replace R := R.out
        repeat' first | with_reducible exact R | with_reducible refine RdRule.past ?_ ?_ _ | with_reducible refine RdRule.kept ?_ (Below.refl _ _).drew | (intro b hb; simp at hb; subst hb; simp; omega)
      · replace G := G.out
        repeat' first | with_reducible exact G | with_reducible refine Below.setCell ?_ ?_ _ | with_reducible refine Below.drew ?_ | (simp; done) | (simp; omega) | omega
  · have hmp1 : 1 ≤ m := by omega
    obtain ⟨s_V1, f_V1, z_V1⟩ := V1.open
    obtain ⟨s_VP, f_VP, z_VP⟩ := VP.open
    have R' := Hid.mk R
    clear R
    go_wp2_with fail
    refine (l1Next_ok (w.heap.size + 1) a n ca zs (q2 + 1) (m : Int) _ S3 hb hn hx (by omega) (by omega)).mono ?_
    rintro e w4 ⟨vi, rfl, hv, _, S4, g4⟩
    obtain ⟨hv1, hv2⟩ := hv (by omega)
    obtain ⟨i, rfl⟩ := Int.eq_ofNat_of_zero_le hv1
    have him : i < m := by omega
    clear s_V1 f_V1 z_V1 s_VP f_VP z_VP hv hv1
    have hz5 := g4.size
    have R := R'.out.grown g4 (fun b hb => by simp at hb; subst hb; simp; omega)
    replace V1 := V1.grownB g4 (by omega)
    replace VP := VP.grownB g4 (by omega)
    replace G := G.grown g4 (by have := G.size; (try simp at this); (try simp); omega) (by intro k hk; simp at hk; omega)
    clear g4 S3 S4 R'
    obtain ⟨y, hy⟩ : ∃ y, xs.getD i zRule = y := ⟨_, rfl⟩
    obtain ⟨p0, p1, p2, p3, p4, p5, p6, p7, p8, p9, p10⟩ := RdRule.at R i (by rw [hl'.out]; exact him) y hy
    simp only [Nat.zero_add] at p0 p1 p2 p3 p4 p5 p6 p7 p8
    obtain ⟨k0, f0, t0, r0, l0, u0, v0, CS, _⟩ := smp_both y.s
    replace CS := Hid.mk CS
    clear p9 p10 hy
    obtain ⟨s_V1, f_V1, z_V1⟩ := V1.open
    obtain ⟨s_VP, f_VP, z_VP⟩ := VP.open
    replace R := Hid.mk R
    go_wp2_with fail
    refine (CS.out _).mono ?_
    rintro e w5 ⟨rfl, b5⟩
    clear s_V1 f_V1 z_V1 s_VP f_VP z_VP p0 p1 p2 p3 p4 p5 p6 p7 p8 CS
    have hz6 := b5.size
    have hG6 := G.size
    replace R := R.out.kept b5
    replace V1 := V1.kept b5
    replace VP := VP.kept b5
    replace G := thenB G b5
    clear b5
    replace R := R.kept (belowA w5 (.cells #[.int .i64 k0, .int .i64 f0, .int .i64 t0, .int .i64 r0, .int .i64 l0, .int .i64 u0, .int .i64 v0, .slice none 0 0] 54))
    replace V1 := V1.kept (belowA w5 (.cells #[.int .i64 k0, .int .i64 f0, .int .i64 t0, .int .i64 r0, .int .i64 l0, .int .i64 u0, .int .i64 v0, .slice none 0 0] 54))
    replace VP := VP.kept (belowA w5 (.cells #[.int .i64 k0, .int .i64 f0, .int .i64 t0, .int .i64 r0, .int .i64 l0, .int .i64 u0, .int .i64 v0, .slice none 0 0] 54))
    replace G := thenB G (belowA w5 (.cells #[.int .i64 k0, .int .i64 f0, .int .i64 t0, .int .i64 r0, .int .i64 l0, .int .i64 u0, .int .i64 v0, .slice none 0 0] 54))
    have VS := V.new w5 [.int .i64 k0, .int .i64 f0, .int .i64 t0, .int .i64 r0, .int .i64 l0, .int .i64 u0, .int .i64 v0, .slice none 0 0] 54
    obtain ⟨s_VS, f_VS, z_VS⟩ := VS.open
    by_cases hk0 : k0 = 0
    · subst hk0
      obtain ⟨s_V1, f_V1, z_V1⟩ := V1.open
      obtain ⟨s_VP, f_VP, z_VP⟩ := VP.open
      have g_VP0 := f_VP 0 (by simp)
      have g_VP1 := f_VP 1 (by simp)
      have g_VP2 := f_VP 2 (by simp)
      have g_VP3 := f_VP 3 (by simp)
      have g_VP4 := f_VP 4 (by simp)
      have g_VP5 := f_VP 5 (by simp)
      have g_VP6 := f_VP 6 (by simp)
      have g_V10 := f_V1 0 (by simp)
      have g_V11 := f_V1 1 (by simp)
      have g_V12 := f_V1 2 (by simp)
      have g_V13 := f_V1 3 (by simp)
      have g_V14 := f_V1 4 (by simp)
      have g_V15 := f_V1 5 (by simp)
      have g_V16 := f_V1 6 (by simp)
      have g_VS0 := f_VS 0 (by simp)
      have g_VS1 := f_VS 1 (by simp)
      have g_VS2 := f_VS 2 (by simp)
      have g_VS3 := f_VS 3 (by simp)
      have g_VS4 := f_VS 4 (by simp)
      have g_VS5 := f_VS 5 (by simp)
      have g_VS6 := f_VS 6 (by simp)
      have g_VS7 := f_VS 7 (by simp)
      simp at g_VS0 g_VS1 g_VS2 g_VS3 g_VS4 g_VS5 g_VS6 g_VS7
      clear f_VS
      simp at g_VP0 g_VP1 g_VP2 g_VP3 g_VP4 g_VP5 g_VP6 g_V10 g_V11 g_V12 g_V13 g_V14 g_V15 g_V16
      clear f_VP f_V1
      have hGz := G.size
      replace G := Hid.mk G
      replace R := Hid.mk R
      go_wp2
      go_region
      all_goals
        go_wp2
        refine bodyPost_ret (v := .tuple #[.slice (some ⟨c, 0, none⟩) _ d, .agg #[.int .i64 f0, .int .i64 t0, .int .i64 r0, .int .i64 l0, .int .i64 u0, .int .i64 v0, .slice none 0 0]]) (by simp [results, Tryd.results53, go_sem, g_V10, g_V11, g_V12, g_V13, g_V14, g_V15, g_V16]) rfl ⟨c, d, _, xs, f0, t0, r0, l0, u0, v0, none, 0, 0, rfl, by omega, hl'.out, by omega, ?_, ?_⟩
        · replace R := R.out
          repeat' first | with_reducible exact R | with_reducible refine RdRule.past ?_ ?_ _ | with_reducible refine RdRule.kept ?_ (Below.refl _ _).drew | (intro b hb; simp at hb; subst hb; simp; omega)
        · replace G := G.out
          repeat' first | with_reducible exact G | with_reducible refine Below.setCell ?_ ?_ _ | with_reducible refine Below.drew ?_ | (simp; done) | (simp; omega) | omega
    · have hk1 : (k0 == 0) = false := by simp [hk0]
      obtain ⟨s_V1, f_V1, z_V1⟩ := V1.open
      obtain ⟨s_VP, f_VP, z_VP⟩ := VP.open
      have g_VP0 := f_VP 0 (by simp)
      have g_VP1 := f_VP 1 (by simp)
      have g_VP2 := f_VP 2 (by simp)
      have g_VP3 := f_VP 3 (by simp)
      have g_VP4 := f_VP 4 (by simp)
      have g_VP5 := f_VP 5 (by simp)
      have g_VP6 := f_VP 6 (by simp)
      have g_V10 := f_V1 0 (by simp)
      have g_V11 := f_V1 1 (by simp)
      have g_V12 := f_V1 2 (by simp)
      have g_V13 := f_V1 3 (by simp)
      have g_V14 := f_V1 4 (by simp)
      have g_V15 := f_V1 5 (by simp)
      have g_V16 := f_V1 6 (by simp)
      have g_VS0 := f_VS 0 (by simp)
      have g_VS1 := f_VS 1 (by simp)
      have g_VS2 := f_VS 2 (by simp)
      have g_VS3 := f_VS 3 (by simp)
      have g_VS4 := f_VS 4 (by simp)
      have g_VS5 := f_VS 5 (by simp)
      have g_VS6 := f_VS 6 (by simp)
      have g_VS7 := f_VS 7 (by simp)
      simp at g_VS0 g_VS1 g_VS2 g_VS3 g_VS4 g_VS5 g_VS6 g_VS7
      clear f_VS
      simp at g_VP0 g_VP1 g_VP2 g_VP3 g_VP4 g_VP5 g_VP6 g_V10 g_V11 g_V12 g_V13 g_V14 g_V15 g_V16
      clear f_VP f_V1
      have hGz := G.size
      replace G := Hid.mk G
      replace R := Hid.mk R
      go_wp2
      go_region
      all_goals
        go_wp2
        refine bodyPost_ret (v := .tuple #[.slice (some ⟨c, 0, none⟩) _ d, .agg #[.int .i64 f, .int .i64 t', .int .i64 r, .int .i64 l, .int .i64 u, .int .i64 v, .slice (some ⟨c', 0, none⟩) k d']]) (by simp [results, Tryd.results53, go_sem, g_V10, g_V11, g_V12, g_V13, g_V14, g_V15, g_V16]) rfl ⟨c, d, _, xs, f, t', r, l, u, v, some ⟨c', 0, none⟩, k, d', rfl, by omega, hl'.out, by omega, ?_, ?_⟩
        · replace R := R.out
          repeat' first | with_reducible exact R | with_reducible refine RdRule.past ?_ ?_ _ | with_reducible refine RdRule.kept ?_ (Below.refl _ _).drew | (intro b hb; simp at hb; subst hb; simp; omega)
        · replace G := G.out
          repeat' first | with_reducible exact G | with_reducible refine Below.setCell ?_ ?_ _ | with_reducible refine Below.drew ?_ | (simp; done) | (simp; omega) | omega

set_option maxHeartbeats 2000000 in
theorem drawFirstRule_ok (a : Option Addr) (n ca : Nat) (zs : List Int) (w : World) (ha : Rd .u8 w a zs) (hb : Bytes zs) (hn : zs.length = n) (hx : n ≤ 1048577) :
    Calls Tryd.prog 14 #[.slice a n ca] w fun e w' => ∃ (c d m : Nat) (xs : List R11) (f t r l u v : Int) (s : Option Addr) (k g : Nat), e = .returned (.tuple #[.slice (some ⟨c, 0, none⟩) m d, .agg #[.int .i64 f, .int .i64 t, .int .i64 r, .int .i64 l, .int .i64 u, .int .i64 v, .slice s k g]]) ∧ m ≤ 21 ∧ xs.length = m ∧ w.heap.size ≤ c ∧ RdRule w' (some ⟨c, 0, none⟩) xs ∧ Below w.heap.size w w' := by
  have V1 := V.new w [.int .i64 0, .int .i64 0, .int .i64 0, .int .i64 0, .int .i64 0, .int .i64 0, .slice none 0 0] 26
  have B := belowA w (.cells #[.int .i64 0, .int .i64 0, .int .i64 0, .int .i64 0, .int .i64 0, .int .i64 0, .slice none 0 0] 26)
  have e0 := extractP0
  have e1 := extractP1
  obtain ⟨s_V1, f_V1, z_V1⟩ := V1.open
  go_enter Tryd.func14, Tryd.ntmps14
  go_wp2_with fail
  refine (l4With_ok a n ca zs _ (ha.kept B) hb hn hx).mono ?_
  rintro e w1 ⟨c, d, m, xs, f, t', r, l, u, v, s, k, g, rfl, hm, hl, hc, R, b1⟩
  simp only [World.size_alloc] at hc
  clear s_V1 f_V1 z_V1
  have hz1 := b1.size
  simp only [World.size_alloc] at hz1
  replace V1 := V1.kept b1
  replace B := thenB B b1
  clear b1
  have VF := V1.fill7 (.int .i64 f) (.int .i64 t') (.int .i64 r) (.int .i64 l) (.int .i64 u) (.int .i64 v) (.slice s k g)
  obtain ⟨s_V1, f_V1, z_V1⟩ := V1.open
  have g0 := VF.2.1 0 (by simp)
  have g1 := VF.2.1 1 (by simp)
  have g2 := VF.2.1 2 (by simp)
  have g3 := VF.2.1 3 (by simp)
  have g4 := VF.2.1 4 (by simp)
  have g5 := VF.2.1 5 (by simp)
  have g6 := VF.2.1 6 (by simp)
  simp only [List.getElem?_cons_zero, List.getElem?_cons_succ] at g0 g1 g2 g3 g4 g5 g6
  have R' := Hid.mk R
  have hl' := Hid.mk hl
  have B' := Hid.mk B
  clear R hl B VF
  go_wp2
  refine bodyPost_ret (v := .tuple #[.slice (some ⟨c, 0, none⟩) m d, .agg #[.int .i64 f, .int .i64 t', .int .i64 r, .int .i64 l, .int .i64 u, .int .i64 v, .slice s k g]]) (by simp [results, Tryd.results14, go_sem, g0, g1, g2, g3, g4, g5, g6]) rfl ⟨c, d, m, xs, f, t', r, l, u, v, s, k, g, rfl, hm, hl'.out, by omega, ?_, ?_⟩
  · have R := R'.out
    repeat' first | with_reducible exact R | with_reducible refine RdRule.past ?_ ?_ _ | (intro b hb; simp at hb; subst hb; simp; omega)
  · have B := B'.out
    repeat' first | with_reducible exact B | with_reducible refine Below.setCell ?_ ?_ _ | (simp; done) | (simp; omega)

set_option maxHeartbeats 2000000 in
theorem drawSwapRules_ok (a : Option Addr) (n ca : Nat) (zs : List Int) (w : World) (ha : Rd .u8 w a zs) (hb : Bytes zs) (hn : zs.length = n) (hx : n ≤ 1048577) :
    Calls Tryd.prog 19 #[.slice a n ca] w fun e w' => ∃ (c d m : Nat) (xs : List R11) (v : Int), e = .returned (.tuple #[.slice (some ⟨c, 0, none⟩) m d, .int .i64 v]) ∧ m ≤ 21 ∧ xs.length = m ∧ RdRule w' (some ⟨c, 0, none⟩) xs ∧ (-1 ≤ v ∧ v ≤ 21) ∧ Below w.heap.size w w' := by
  go_enter Tryd.func19, Tryd.ntmps19
  have S := Src.new w a n ca zs 147 ha
  have G := belowA w (.cells #[.slice a n ca, .int .i64 0] 147)
  go_wp2_with (first | (go_at_call 62; go_in) | fail)
  refine (l4Bent_ok w.heap.size a n ca zs 0 _ S hb hn hx (by omega)).mono ?_
  rintro e w1 ⟨c, d, m, xs, q, rfl, hm, hl, O, hq, S1, g1⟩
  have hcw := O.lt _ rfl
  simp only [World.size_alloc] at hcw
  have R := O.rd
  replace G := G.grown g1 (by simp) (by simp)
  clear S g1 O
  have R' := Hid.mk R
  have hl' := Hid.mk hl
  clear R hl
  obtain ⟨M, hM⟩ : ∃ M : Int, max 1 (m : Int) = M := ⟨_, rfl⟩
  have hM1 : 1 ≤ M ∧ M ≤ 21 := by omega
  obtain ⟨hM1, hM2⟩ := hM1
  go_wp2_with fail
  refine (l1Max_ok 1 (m : Int) _).mono ?_
  rintro e w9 ⟨rfl, rfl⟩
  rw [hM]
  clear hM
  go_wp2_with fail
  refine (l1Next_ok w.heap.size a n ca zs q M _ S1 hb hn hx (by omega) (by omega)).mono ?_
  rintro e w2 ⟨v, rfl, hv, _, S2, g2⟩
  obtain ⟨hv1, hv2⟩ := hv (by omega)
  have hz2 := g2.size
  have hG2 := G.size
  have R := R'.out.grown g2 (fun b hb => by simp at hb; subst hb; simp; omega)
  replace G := G.grown g2 G.size (by simp)
  clear S1 g2 R' hv
  replace R := R.kept (belowA w2 (.cells #[.int .i64 v, .int .i64 0, .int .i64 1, .int .i64 (-1)] 2))
  replace S2 := S2.kept (belowA w2 (.cells #[.int .i64 v, .int .i64 0, .int .i64 1, .int .i64 (-1)] 2))
  replace G := thenB G (belowA w2 (.cells #[.int .i64 v, .int .i64 0, .int .i64 1, .int .i64 (-1)] 2))
  have R' := Hid.mk R
  clear R
  go_wp2_with fail
  refine (l1Pick_ok w.heap.size a n ca zs (q + 1) w2.heap.size 4 4 [v, 0, 1, -1] _ S2 hb hn hx (by omega) rfl (by omega) (by omega) (fun i hi => ?_) (by omega)).mono ?_
  · exact lit_cells w2 [v, 0, 1, -1] _ _ (by simp) i hi
  rintro e w3 ⟨z, rfl, hmem, S3, g3⟩
  have hz1 : -1 ≤ z ∧ z ≤ 21 := by
    simp at hmem
    rcases hmem with rfl | rfl | rfl | rfl <;> omega
  have R := R'.out.grown g3 (fun b hb => by simp at hb; subst hb; simp; omega)
  replace G := G.grown g3 G.size (by simp)
  clear S2 S3 g3 R' hmem
  replace R := Hid.mk R
  go_wp2
  go_ret2
  exact ⟨c, d, m, xs, z, rfl, hm, hl'.out, R.out, hz1, G⟩

end Go.Proofs.YtngkahchhioncaaDoor
