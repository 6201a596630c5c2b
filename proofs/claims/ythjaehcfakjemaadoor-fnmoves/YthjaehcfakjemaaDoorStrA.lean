/- Rows of texts: one is put behind the others. -/
import Derived.Test.YthjaehcfakjemaaDoorNewC
import Derived.Test.YthjaehcfakjemaaDoorHeld
import Derived.Deep.AppendLies
namespace Go.Proofs.YthjaehcfakjemaaDoor
open Go.RowKit

theorem Tryd.infoStr : (Tryd.prog.info? 9).map (fun i => (i.zero, i.size, i.bytes)) = some (some (.string ⟨#[]⟩), 1, 16) := by kernel_rfl

/-- A row of texts that is the call's own. -/
def OwnSt (w : World) (base : Nat) (a : Option Addr) (cap : Nat) (zs : List ByteArray) : Prop :=
  w.ownsRow base 9 1 (.slice a zs.length cap) zs.length (zs.map Value.string)

theorem OwnSt.cells {w : World} {base g : Nat} {cap : Nat} {zs : List ByteArray} (h : OwnSt w base (some ⟨g, 0, none⟩) cap zs) : ∀ (j : Nat) x, zs[j]? = some x → w.cell? ⟨g, 0 + j, none⟩ = some (.string x) := by
  intro j x hj
  have hl := (List.getElem?_eq_some_iff.1 hj).1
  rw [Nat.zero_add, World.ownsRow.cellAt h j (by simpa using hl), List.getElem?_map, hj]; rfl

theorem OwnSt.lt {w : World} {base : Nat} {a : Option Addr} {cap : Nat} {zs : List ByteArray} (h : OwnSt w base a cap zs) : ∀ b, a = some b → base ≤ b.block ∧ b.block < w.heap.size := by
  intro b hb
  subst hb
  exact World.ownsRow.lt h b.block rfl

theorem OwnSt.grown {w w' : World} {base : Nat} {a : Option Addr} {cap : Nat} {zs : List ByteArray} {row : Option Nat} (h : OwnSt w base a cap zs) (hg : w.grownBy w' row) (hne : ∀ b, a = some b → row ≠ some b.block) : OwnSt w' base a cap zs := by
  refine World.ownsRow.kept h hg ?_
  cases a with
  | none => exact .inl rfl
  | some b => exact .inr fun e => hne b rfl e.symm

theorem OwnSt.kept {w w' : World} {base : Nat} {a : Option Addr} {cap : Nat} {zs : List ByteArray} (h : OwnSt w base a cap zs) (hb : Below w.heap.size w w') : OwnSt w' base a cap zs :=
  h.grown (Below.grownBy hb none) fun _ _ => by simp

theorem OwnSt.cap {w : World} {base g : Nat} {cap : Nat} {zs : List ByteArray} (h : OwnSt w base (some ⟨g, 0, none⟩) cap zs) : zs.length ≤ cap := by
  rcases h.2 with ⟨h1, _⟩ | ⟨g', cap', cur, hv, _, _, h2, _⟩
  · cases h1
  · simp only [Value.slice.injEq, Option.some.injEq, Addr.mk.injEq, and_true, true_and] at hv
    omega

theorem OwnSt.lit (w : World) (zs : List ByteArray) (vs : List Value) (hv : vs = zs.map (Value.string)) (hm : zs.length ≤ maxLen) : OwnSt (w.alloc (.cells vs.toArray 9)) w.heap.size (some ⟨w.heap.size, 0, none⟩) zs.length zs := by
  subst hv
  have h := World.ownsRow_lit (base := w.heap.size) (e := 9) (size := 1) w (zs.map (Value.string)).toArray zs.length (Nat.le_refl _) hm (by simp)
  simpa [OwnSt] using h

theorem wpList_putSt {ops : Array Oper} {rest : List Oper} {o : Oper} {a : Act} {Q : Exit → Act → World → Prop} (w : World) (hgd : o.guard = none) (s x : Operand)
    (ho : o.op = .call { callee := .builtin .append, args := #[s, x], argTypes := #[91, 91] })
    (base : Nat) (c : Option Addr) (d : Nat) (xs : List ByteArray) (n : Nat) (hn : xs.length = n) (hs : a.eval s = .slice c n d) (hown : OwnSt w base c d xs)
    (ad : Addr) (cc : Nat) (p : ByteArray) (hx : a.eval x = .slice (some ad) 1 cc) (hp : w.cell? (ad.add 0) = some (.string p))
    (hlen : n ≤ 1000000) (hbase : base ≤ w.heap.size)
    (h : ∀ c' d' w', OwnSt w' base c' d' (xs ++ [p]) → w.grownBy w' (c.map Addr.block) → Hid (∃ g, c' = some ⟨g, 0, none⟩ ∧ ((∃ a, c = some a ∧ a.block = g) ∨ g = w.heap.size) ∧ g < w'.heap.size) → wpList Tryd.prog ops Q rest (a.put o.dst (.slice c' (n + 1) d')) w') : wpList Tryd.prog ops Q (o :: rest) a w := by
  subst hn
  obtain ⟨i, hi, hz, hsz, hby⟩ : ∃ i, Tryd.prog.info? 9 = some i ∧ i.zero = some (.string ⟨#[]⟩) ∧ i.size = 1 ∧ i.bytes = 16 := by
    have h := Tryd.infoStr
    cases he : Tryd.prog.info? 9 with
    | none => rw [he] at h; cases h
    | some i =>
      rw [he] at h
      simp only [Option.map_some, Option.some.injEq, Prod.mk.injEq] at h
      exact ⟨i, rfl, h.1, h.2.1, h.2.2⟩
  refine wpList_append_lies w hgd s x 91 ho base 9 i _ 1 16 Tryd.underlying91 hi hz hsz hby (by rfl) (by decide) (.slice c xs.length d) xs.length (xs.map (Value.string)) hs hown ad 1 cc [.string p] hx rfl (fun j u hj => ?_) ?_ (by decide) (by unfold maxLen; omega) (by omega) hbase _ rfl ?_
  · match j, hj with
    | 0, hj => simp only [List.getElem?_cons_zero, Option.some.injEq] at hj; rw [← hj]; exact hp
  · intro u hu
    simp only [List.mem_cons, List.not_mem_nil, or_false] at hu
    subst hu; rfl
  · intro g cap w' h1 h2 h3 h4
    have e1 : (xs ++ [p]).length = xs.length + 1 := by simp
    have h2' : w.grownBy w' (c.map Addr.block) := by cases c <;> exact h2
    refine h _ _ w' ?_ h2' (Hid.mk ⟨g, rfl, ?_, h4⟩)
    · unfold OwnSt; rw [e1, List.map_append]; exact h1
    · rcases h3 with h3 | h3
      · left; cases c with
        | none => cases h3
        | some b => exact ⟨b, rfl, by simpa [Value.ownBlock] using h3⟩
      · exact .inr h3

end Go.Proofs.YthjaehcfakjemaaDoor
