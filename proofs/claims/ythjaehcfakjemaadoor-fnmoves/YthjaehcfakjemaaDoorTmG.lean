/- A book of terms: its blocks, what stays beside it. -/
import Derived.Test.YthjaehcfakjemaaDoorTmC
import Derived.Test.YthjaehcfakjemaaDoorNewC
import Derived.Test.YthjaehcfakjemaaDoorFill
namespace Go.Proofs.YthjaehcfakjemaaDoor
open Go.RowKit

/-- All is as it was but for the blocks X and new ones. -/
structure Sm (X : Nat → Prop) (w w' : World) : Prop where
  os : w'.os = w.os
  tape : w'.tape = w.tape
  output : w'.output = w.output
  size : w.heap.size ≤ w'.heap.size
  block : ∀ k, k < w.heap.size → ¬ X k → w'.heap[k]? = w.heap[k]?

theorem Sm.refl (X : Nat → Prop) (w : World) : Sm X w w := ⟨rfl, rfl, rfl, Nat.le_refl _, fun _ _ _ => rfl⟩

theorem Sm.trans {X : Nat → Prop} {a b c : World} (h : Sm X a b) (k : Sm X b c) : Sm X a c :=
  ⟨k.os.trans h.os, k.tape.trans h.tape, k.output.trans h.output, Nat.le_trans h.size k.size, fun i hi hx => (k.block i (Nat.lt_of_lt_of_le hi h.size) hx).trans (h.block i hi hx)⟩

theorem Sm.below {X : Nat → Prop} {w w' : World} (h : Below w.heap.size w w') : Sm X w w' := ⟨h.os, h.tape, h.output, h.size, fun k hk _ => h.block k hk⟩

theorem Sm.grown {X : Nat → Prop} {w w' : World} {row : Option Nat} (h : w.grownBy w' row) (hx : ∀ k, row = some k → X k) : Sm X w w' :=
  ⟨h.os, h.tape, h.output, h.size, fun k hk hn => h.block k hk (fun e => hn (hx k e.symm))⟩

theorem Sm.cell {X : Nat → Prop} {w : World} {p : Addr} (hx : X p.block) (v : Value) : Sm X w (w.setCell p v) :=
  ⟨rfl, rfl, rfl, by simp [World.setCell], fun k _ hk => Below.heap_setCell _ _ _ _ (fun e => hk (by rw [e]; exact hx))⟩

theorem Sm.cells {X : Nat → Prop} {w : World} {B : Nat} (hx : X B) (o : Nat) (vs : List Value) : Sm X w (w.setCells B o vs) := by
  induction vs generalizing w o with
  | nil => exact Sm.refl _ _
  | cons v vs ih => exact (Sm.cell (p := ⟨B, o, none⟩) hx v).trans (ih (o + 1))

theorem Sm.newCell {X : Nat → Prop} {w0 w : World} (h : Sm X w0 w) {p : Addr} (hp : w0.heap.size ≤ p.block) (v : Value) : Sm X w0 (w.setCell p v) :=
  ⟨h.os, h.tape, h.output, by simpa [World.setCell] using h.size, fun k hk hx => (Below.heap_setCell _ _ _ _ (fun e => by omega)).trans (h.block k hk hx)⟩

theorem Sm.newCells {X : Nat → Prop} {w0 w : World} (h : Sm X w0 w) {B : Nat} (hp : w0.heap.size ≤ B) (o : Nat) (vs : List Value) : Sm X w0 (w.setCells B o vs) := by
  induction vs generalizing w o with
  | nil => exact h
  | cons v vs ih => exact ih (h.newCell (p := ⟨B, o, none⟩) hp v) (o + 1)

theorem Sm.turn {X : Nat → Prop} {w w' : World} {b : Nat} (h : w.mapTurned w' b) (hx : X b) : Sm X w w' := Sm.grown h.grown (fun k e => by cases e; exact hx)

/-- Fewer blocks are turned than it seemed. -/
theorem Sm.less {X Y : Nat → Prop} {w0 w w' : World} (hs : w0.heap.size ≤ w.heap.size) (h : Sm X w w') (hx : ∀ k, k < w0.heap.size → X k → Y k) (k : Sm Y w0 w) : Sm Y w0 w' :=
  ⟨h.os.trans k.os, h.tape.trans k.tape, h.output.trans k.output, Nat.le_trans hs h.size, fun i hi hn => (h.block i (Nat.lt_of_lt_of_le hi hs) (fun e => hn (hx i hi e))).trans (k.block i hi hn)⟩

theorem V.sm {X : Nat → Prop} {w w' : World} {B : Nat} {vs : List Value} (h : V w B vs) (s : Sm X w w') (hx : ¬ X B) : V w' B vs := by
  have hb : ∀ i, w'.cell? ⟨B, i, none⟩ = w.cell? ⟨B, i, none⟩ := fun i => World.cell?_of_block (s.block B h.1 hx)
  have hf : ∀ i, w'.frozen? ⟨B, i, none⟩ = w.frozen? ⟨B, i, none⟩ := fun i => World.frozen?_of_block (s.block B h.1 hx)
  exact ⟨Nat.lt_of_lt_of_le h.1 s.size, fun i hi => (hb i).trans (h.2.1 i hi), fun o => (hf o).trans (h.2.2 o)⟩

theorem Sm.below' {X : Nat → Prop} {base : Nat} {w0 w w' : World} (s : Sm X w w') (h : Below base w0 w) (hb : base ≤ w.heap.size) (hx : ∀ k, X k → base ≤ k) : Below base w0 w' :=
  ⟨s.os.trans h.os, s.tape.trans h.tape, s.output.trans h.output, Nat.le_trans h.size s.size, fun k hk => (s.block k (Nat.lt_of_lt_of_le hk hb) (fun e => absurd (hx k e) (by omega))).trans (h.block k hk)⟩

theorem Sm.grownBy1 {X : Nat → Prop} {w w' : World} (s : Sm X w w') (a : Option Addr) (ha : ∀ b, a = some b → ¬ X b.block) (hl : ∀ b, a = some b → b.block < w.heap.size) : ∀ b : Addr, a = some b → w'.heap[b.block]? = w.heap[b.block]? :=
  fun b hb => s.block b.block (hl b hb) (ha b hb)

theorem ownsRow_sm {X : Nat → Prop} {w w' : World} {base : Nat} {e : TypeId} {size n : Nat} {v : Value} {xs : List Value} (h : w.ownsRow base e size v n xs) (s : Sm X w w') (hx : ∀ k, v.ownBlock = some k → ¬ X k) : w'.ownsRow base e size v n xs := by
  obtain ⟨h1, h2⟩ := h
  refine ⟨h1, ?_⟩
  rcases h2 with h2 | ⟨g, cap, cur, hv, hg, r⟩
  · exact .inl h2
  · subst hv
    have hlt := World.ownsRow.lt (w := w) (base := base) (e := e) (size := size) (v := .slice (some ⟨g, 0, none⟩) n cap) (n := n) (xs := xs) ⟨h1, .inr ⟨g, cap, cur, rfl, hg, r⟩⟩ g rfl
    have hbk := s.block g hlt.2 (hx g rfl)
    refine .inr ⟨g, cap, cur, rfl, hg, ?_⟩
    simpa [hbk] using r

theorem OwnTerm.sm {X : Nat → Prop} {w w' : World} {base : Nat} {a : Option Addr} {cap : Nat} {xs : List T4} (h : OwnTerm w base a cap xs) (s : Sm X w w') (hx : ∀ b : Addr, a = some b → ¬ X b.block) : OwnTerm w' base a cap xs :=
  ownsRow_sm h s fun k hk => by
    cases a with
    | none => cases hk
    | some b => simp [Value.ownBlock] at hk; subst hk; exact hx b rfl

theorem Own.sm {k : IntKind} {e : TypeId} {X : Nat → Prop} {w w' : World} {base : Nat} {a : Option Addr} {cap : Nat} {zs : List Int} (h : Own k e w base a cap zs) (s : Sm X w w') (hx : ∀ b : Addr, a = some b → ¬ X b.block) : Own k e w' base a cap zs :=
  ownsRow_sm h s fun k hk => by
    cases a with
    | none => cases hk
    | some b => simp [Value.ownBlock] at hk; subst hk; exact hx b rfl

theorem Rd.sm {k : IntKind} {X : Nat → Prop} {w w' : World} {a : Option Addr} {zs : List Int} (h : Rd k w a zs) (s : Sm X w w') (hx : ∀ b : Addr, a = some b → ¬ X b.block) : Rd k w' a zs := by
  rcases h with h | ⟨b, off, rfl, hc⟩
  · exact .inl h
  · refine .inr ⟨b, off, rfl, fun i hi => ?_⟩
    have h1 := hc i hi
    exact (World.cell?_of_block (s.block b (World.block_lt_of_cell? (a := ⟨b, off + i, none⟩) w h1) (hx _ rfl))).trans h1

theorem RdTerm.sm {X : Nat → Prop} {w w' : World} {a : Option Addr} {xs : List T4} (h : RdTerm w a xs) (s : Sm X w w') (hx : ∀ b : Addr, a = some b → ¬ X b.block) : RdTerm w' a xs := by
  rcases h with h | ⟨b, off, rfl, hc⟩
  · exact .inl h
  · refine .inr ⟨b, off, rfl, fun i j hi hj => ?_⟩
    have h1 := hc i j hi hj
    obtain ⟨v, hv⟩ : ∃ v, (rowTerm (xs.getD i zTerm))[j]? = some v := ⟨_, List.getElem?_eq_getElem (by rw [rowTerm_len]; exact hj)⟩
    rw [hv] at h1 ⊢
    exact (World.cell?_of_block (s.block b (World.block_lt_of_cell? (a := ⟨b, off + i * 4 + j, none⟩) w h1) (hx _ rfl))).trans h1

theorem TM.sm {X : Nat → Prop} {w w' : World} {b : Nat} {M : T4 → Option Int} {c : Nat} (h : TM w b M c) (s : Sm X w w') (hx : ¬ X b) : TM w' b M c := by
  obtain ⟨D, n, ⟨es, clock, hb, r⟩, q⟩ := h
  exact ⟨D, n, ⟨es, clock, (s.block b (Array.getElem?_eq_some_iff.1 hb).1 hx).trans hb, r⟩, q⟩

theorem cells_far {w : World} {b x B : Nat} (h : b ≠ B) (o : Nat) (vs : List Value) : (w.setCells B o vs).cell? ⟨b, x, none⟩ = w.cell? ⟨b, x, none⟩ := by
  induction vs generalizing w o with
  | nil => rfl
  | cons v vs ih =>
    refine (ih (w := w.setCell ⟨B, o, .none⟩ v) (o + 1)).trans ?_
    rw [World.cell?_setCell_other w _ _ _ (by simp)]
    all_goals simp [Ne.symm h]

theorem wp_stroke {op : Oper} {a : Act} {w : World} {K : Act → World → Prop} {Q : Exit → Act → World → Prop} (w6 : World) (ty : TypeId) (x y : Operand) (ho : op.op = .store ty x y)
    (b o : Nat) (cells : Array Value) (hx : a.eval x = .pointer (some ⟨b, o, none⟩)) (hy : a.eval y = .agg cells)
    (ht : w.there b o cells.size) (hi : (Tryd.prog.info? ty).map (·.size) = some cells.size) (h1 : cells.all (·.oneCell') = true) (hw : w.setCells b o cells.toList = w6)
    (h : K (a.put op.dst undef) w6) : op.wp Tryd.prog a w K Q :=
  wp_store_mid ty x y ho b o cells hx hy ht hi h1 (hw ▸ h)

/-- One term is put behind the terms of a row of one's own: at one operation. -/
theorem wp_putTerm {o : Oper} {a : Act} {K : Act → World → Prop} {Q : Exit → Act → World → Prop} (w : World) (s x : Operand)
    (ho : o.op = .call { callee := .builtin .append, args := #[s, x], argTypes := #[24, 24] })
    (base : Nat) (c : Option Addr) (d : Nat) (xs : List T4) (n : Nat) (hn : xs.length = n) (hs : a.eval s = .slice c n d) (hown : OwnTerm w base c d xs)
    (ad : Addr) (cc : Nat) (p : T4) (hx : a.eval x = .slice (some ad) 1 cc) (hp : ∀ j u, (rowTerm p)[j]? = some u → w.cell? (ad.add j) = some u)
    (hlen : n ≤ 1000000) (hbase : base ≤ w.heap.size)
    (h : ∀ c' d' w', OwnTerm w' base c' d' (xs ++ [p]) → w.grownBy w' (c.map Addr.block) → Hid (∃ g, c' = some ⟨g, 0, none⟩ ∧ ((∃ a, c = some a ∧ a.block = g) ∨ g = w.heap.size) ∧ g < w'.heap.size) → K (a.put o.dst (.slice c' (n + 1) d')) w') : o.wp Tryd.prog a w K Q := by
  subst hn
  obtain ⟨i, hi, hz, hsz, hby⟩ : ∃ i, Tryd.prog.info? 70 = some i ∧ i.zero = some (.agg #[.int .i64 0, .int .i64 0, .int .i64 0, .int .i64 0]) ∧ i.size = 4 ∧ i.bytes = 32 := by
    have h := Tryd.infoTerm
    cases he : Tryd.prog.info? 70 with
    | none => rw [he] at h; cases h
    | some i =>
      rw [he] at h
      simp only [Option.map_some, Option.some.injEq, Prod.mk.injEq] at h
      exact ⟨i, rfl, h.1, h.2.1, h.2.2⟩
  refine wp_append_lies w s x 24 ho base 70 i _ 4 32 Tryd.underlying24 hi hz hsz hby (by rfl) (by decide) (.slice c xs.length d) xs.length (flatTerm xs) hs hown ad 1 cc (rowTerm p) hx rfl hp ?_ (by decide) (by unfold maxLen; omega) (by omega) hbase _ rfl ?_
  · intro u hu
    simp only [rowTerm, List.mem_cons, List.not_mem_nil, or_false] at hu
    rcases hu with rfl | rfl | rfl | rfl <;> rfl
  · intro g cap w' h1 h2 h3 h4
    have e1 : (xs ++ [p]).length = xs.length + 1 := by simp
    have e2 : flatTerm xs ++ rowTerm p = flatTerm (xs ++ [p]) := by rw [flatTerm_app]; simp [flatTerm]
    have h2' : w.grownBy w' (c.map Addr.block) := by cases c <;> exact h2
    refine h _ _ w' ?_ h2' (Hid.mk ⟨g, rfl, ?_, h4⟩)
    · unfold OwnTerm; rw [e1, ← e2]; exact h1
    · rcases h3 with h3 | h3
      · left; cases c with
        | none => cases h3
        | some b => exact ⟨b, rfl, by simpa [Value.ownBlock] using h3⟩
      · exact .inr h3

/-- The blocks of a book: its own, its map, its terms. -/
def BkX (p g : Nat) (c : Option Addr) (k : Nat) : Prop := k = p ∨ k = g ∨ ∃ b : Addr, c = some b ∧ k = b.block

theorem bkx_row {p g : Nat} {c : Option Addr} {k : Nat} (h : c.map Addr.block = some k) : BkX p g c k := by
  cases c with
  | none => cases h
  | some b => simp at h; subst h; exact .inr (.inr ⟨b, rfl, rfl⟩)

theorem row_from {c c4 : Option Addr} {m n : Nat} (h : ∃ g, c4 = some ⟨g, 0, none⟩ ∧ ((∃ a, c = some a ∧ a.block = g) ∨ g = n) ∧ m < n) : ∀ b : Addr, c4 = some b → (∃ a, c = some a ∧ a.block = b.block) ∨ m + 1 ≤ b.block := by
  obtain ⟨g, rfl, h1, h2⟩ := h
  intro b hb
  simp only [Option.some.injEq] at hb
  subst hb
  rcases h1 with h1 | h1
  · exact .inl h1
  · right; subst h1; exact h2

theorem row_off {c c4 : Option Addr} {m p : Nat} (h : ∀ b : Addr, c4 = some b → (∃ a, c = some a ∧ a.block = b.block) ∨ m + 1 ≤ b.block) (hc : ∀ b : Addr, c = some b → b.block ≠ p) (hp : p < m) : ∀ b : Addr, c4 = some b → b.block ≠ p := by
  intro b hb
  rcases h b hb with ⟨a, ha, e⟩ | h1
  · rw [← e]; exact hc a ha
  · omega

/-- A book: terms, and the place of each. -/
structure Bk (w : World) (base p g : Nat) (c : Option Addr) (d : Nat) (xs : List T4) : Prop where
  v : V w p [.slice c xs.length d, .map (some g)]
  o : OwnTerm w base c d xs
  m : TM w g (tmM xs) xs.length
  bp : base ≤ p
  bg : base ≤ g
  ne : p ≠ g
  cp : ∀ b : Addr, c = some b → b.block ≠ p
  cg : ∀ b : Addr, c = some b → b.block ≠ g

theorem Bk.kept {w w' : World} {base p g : Nat} {c : Option Addr} {d : Nat} {xs : List T4} (h : Bk w base p g c d xs) (hb : Below w.heap.size w w') : Bk w' base p g c d xs :=
  ⟨h.v.kept hb, h.o.kept hb, h.m.kept hb, h.bp, h.bg, h.ne, h.cp, h.cg⟩

theorem Bk.sm {X : Nat → Prop} {w w' : World} {base p g : Nat} {c : Option Addr} {d : Nat} {xs : List T4} (h : Bk w base p g c d xs) (s : Sm X w w') (hx : ∀ k, X k → ¬ BkX p g c k) : Bk w' base p g c d xs :=
  ⟨h.v.sm s (fun e => hx _ e (.inl rfl)), h.o.sm s (fun b hb e => hx _ e (.inr (.inr ⟨b, hb, rfl⟩))), h.m.sm s (fun e => hx _ e (.inr (.inl rfl))), h.bp, h.bg, h.ne, h.cp, h.cg⟩

theorem Bk.apart {w : World} {base p g : Nat} {c : Option Addr} {d : Nat} {xs : List T4} (h : Bk w base p g c d xs) {B : Nat} (hB : ∀ k, BkX p g c k → k ≠ B) (o : Nat) (vs : List Value) : Bk (w.setCells B o vs) base p g c d xs :=
  ⟨h.v.apart (hB _ (.inl rfl)) o vs, h.o.apart (fun b hb => hB _ (.inr (.inr ⟨b, hb, rfl⟩))) o vs, h.m.apart (hB _ (.inr (.inl rfl))) o vs, h.bp, h.bg, h.ne, h.cp, h.cg⟩

theorem Bk.lt {w : World} {base p g : Nat} {c : Option Addr} {d : Nat} {xs : List T4} (h : Bk w base p g c d xs) : ∀ k, BkX p g c k → base ≤ k ∧ k < w.heap.size := by
  rintro k (rfl | rfl | ⟨b, hb, rfl⟩)
  · exact ⟨h.bp, h.v.1⟩
  · exact ⟨h.bg, h.m.lt⟩
  · exact h.o.lt b hb

end Go.Proofs.YthjaehcfakjemaaDoor
