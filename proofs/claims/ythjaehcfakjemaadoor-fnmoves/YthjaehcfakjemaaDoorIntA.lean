/- Rows of whole numbers: one is put behind the others. -/
import Derived.Test.YthjaehcfakjemaaDoorNewC
import Derived.Test.YthjaehcfakjemaaDoorHeld
import Derived.Deep.AppendLies
namespace Go.Proofs.YthjaehcfakjemaaDoor
open Go.RowKit

theorem Tryd.infoI64 : (Tryd.prog.info? 2).map (fun i => (i.zero, i.size, i.bytes)) = some (some (.int .i64 0), 1, 8) := by kernel_rfl

theorem OwnI.lit (w : World) (zs : List Int) (vs : List Value) (hv : vs = zs.map (Value.int .i64)) (hm : zs.length ≤ maxLen) : Own .i64 2 (w.alloc (.cells vs.toArray 2)) w.heap.size (some ⟨w.heap.size, 0, none⟩) zs.length zs := by
  subst hv
  have h := World.ownsRow_lit (base := w.heap.size) (e := 2) (size := 1) w (zs.map (Value.int .i64)).toArray zs.length (Nat.le_refl _) hm (by simp)
  simpa [Own] using h

theorem wpList_putI {ops : Array Oper} {rest : List Oper} {o : Oper} {a : Act} {Q : Exit → Act → World → Prop} (w : World) (hgd : o.guard = none) (s x : Operand)
    (ho : o.op = .call { callee := .builtin .append, args := #[s, x], argTypes := #[38, 38] })
    (base : Nat) (c : Option Addr) (d : Nat) (xs : List Int) (n : Nat) (hn : xs.length = n) (hs : a.eval s = .slice c n d) (hown : Own .i64 2 w base c d xs)
    (ad : Addr) (cc : Nat) (p : Int) (hx : a.eval x = .slice (some ad) 1 cc) (hp : w.cell? (ad.add 0) = some (.int .i64 p))
    (hlen : n ≤ 1000000) (hbase : base ≤ w.heap.size)
    (h : ∀ c' d' w', Own .i64 2 w' base c' d' (xs ++ [p]) → w.grownBy w' (c.map Addr.block) → Hid (∃ g, c' = some ⟨g, 0, none⟩ ∧ ((∃ a, c = some a ∧ a.block = g) ∨ g = w.heap.size) ∧ g < w'.heap.size) → wpList Tryd.prog ops Q rest (a.put o.dst (.slice c' (n + 1) d')) w') : wpList Tryd.prog ops Q (o :: rest) a w := by
  subst hn
  obtain ⟨i, hi, hz, hsz, hby⟩ : ∃ i, Tryd.prog.info? 2 = some i ∧ i.zero = some (.int .i64 0) ∧ i.size = 1 ∧ i.bytes = 8 := by
    have h := Tryd.infoI64
    cases he : Tryd.prog.info? 2 with
    | none => rw [he] at h; cases h
    | some i =>
      rw [he] at h
      simp only [Option.map_some, Option.some.injEq, Prod.mk.injEq] at h
      exact ⟨i, rfl, h.1, h.2.1, h.2.2⟩
  refine wpList_append_lies w hgd s x 38 ho base 2 i _ 1 8 Tryd.underlying38 hi hz hsz hby (by rfl) (by decide) (.slice c xs.length d) xs.length (xs.map (Value.int .i64)) hs hown ad 1 cc [.int .i64 p] hx rfl (fun j u hj => ?_) ?_ (by decide) (by unfold maxLen; omega) (by omega) hbase _ rfl ?_
  · match j, hj with
    | 0, hj => simp only [List.getElem?_cons_zero, Option.some.injEq] at hj; rw [← hj]; exact hp
  · intro u hu
    simp only [List.mem_cons, List.not_mem_nil, or_false] at hu
    subst hu; rfl
  · intro g cap w' h1 h2 h3 h4
    have e1 : (xs ++ [p]).length = xs.length + 1 := by simp
    have h2' : w.grownBy w' (c.map Addr.block) := by cases c <;> exact h2
    refine h _ _ w' ?_ h2' (Hid.mk ⟨g, rfl, ?_, h4⟩)
    · unfold Own; rw [e1, List.map_append]; exact h1
    · rcases h3 with h3 | h3
      · left; cases c with
        | none => cases h3
        | some b => exact ⟨b, rfl, by simpa [Value.ownBlock] using h3⟩
      · exact .inr h3

end Go.Proofs.YthjaehcfakjemaaDoor
