/- A table copied, a term put: the model. -/
import Derived.Test.YtdggihikkegjjaaTmQ
import Derived.Test.YtdggihikkegjjaaTmJ
import Derived.Test.YtdggihikkegjjaaApp
import Derived.Laws.AppendOwnNone
import Derived.Deep.DeepCutAuto
namespace Go.Proofs.Ytdggihikkegjjaa
open Go.RowKit

theorem ownTerm_nocap {w : World} {base : Nat} {a : Option Addr} {cap : Nat} {xs : List T4} (h : OwnTerm w base a cap xs) : a = none → cap = 0 := by
  rintro rfl
  rcases h.2 with ⟨h, _⟩ | ⟨g, cap', cur, hv, _⟩
  · simp only [Value.slice.injEq] at h; exact h.2.2
  · simp at hv

theorem row_far {c c4 : Option Addr} {n k p : Nat} (h : ∃ g, c4 = some ⟨g, 0, .none⟩ ∧ ((∃ a, c = some a ∧ a.block = g) ∨ g = n) ∧ g < k) (hc : ∀ b : Addr, c = some b → b.block ≠ p) (hp : p ≠ n) : ∀ b : Addr, c4 = some b → b.block ≠ p := by
  obtain ⟨g, rfl, h1, _⟩ := h
  intro b hb
  simp only [Option.some.injEq] at hb
  subst hb
  rcases h1 with ⟨a, ha, e⟩ | h1
  · rw [← e]; exact hc a ha
  · simp only; omega

theorem V.news {w : World} {B : Nat} {vs : List Value} (h : V w B vs) : ∀ j u, vs[j]? = some u → w.cell? ((⟨B, 0, none⟩ : Addr).add j) = some u := by
  intro j u hu
  have hj := (List.getElem?_eq_some_iff.1 hu).1
  rw [Addr.add_lit, Nat.zero_add, h.2.1 j hj, hu]

theorem infoTm : ∃ i, Try.prog.info? 74 = some i ∧ i.zero = some (.agg #[.int .i64 0, .int .i64 0, .int .i64 0, .int .i64 0]) ∧ i.size = 4 ∧ i.bytes = 32 := by
  have h := Try.infoTerm
  cases he : Try.prog.info? 74 with
  | none => rw [he] at h; cases h
  | some i =>
    rw [he] at h
    simp only [Option.map_some, Option.some.injEq, Prod.mk.injEq] at h
    exact ⟨i, rfl, h.1, h.2.1, h.2.2⟩

/-- All of a slice, be it nil or empty, are put behind the others of a row of one's own. -/
theorem wpList_appTerm {ops : Array Oper} {rest : List Oper} {o : Oper} {a : Act} {Q : Exit → Act → World → Prop} (w : World) (hgd : o.guard = none) (s x : Operand)
    (ho : o.op = .call { callee := .builtin .append, args := #[s, x], argTypes := #[49, 49] })
    (base : Nat) (c : Option Addr) (d : Nat) (xs : List T4) (n : Nat) (hn : xs.length = n) (hs : a.eval s = .slice c n d) (hown : OwnTerm w base c d xs)
    (b : Option Addr) (m cc : Nat) (ys : List T4) (hx : a.eval x = .slice b m cc) (hr : RdTerm w b ys) (hm : ys.length = m) (hb : b = none → cc = 0)
    (hlen : n + m ≤ 1000000) (hbase : base ≤ w.heap.size)
    (h : ∀ c' d' w', OwnTerm w' base c' d' (xs ++ ys) → w.grownBy w' (c.map Addr.block) → wpList Try.prog ops Q rest (a.put o.dst (.slice c' (n + m) d')) w') : wpList Try.prog ops Q (o :: rest) a w := by
  subst hn
  subst hm
  obtain ⟨i, hi, hz, hsz, hby⟩ := infoTm
  cases b with
  | none =>
    have hd := hb rfl
    subst hd
    have hz0 : ys = [] := by
      rcases hr with h0 | ⟨b, off, h0, _⟩
      · exact h0
      · cases h0
    subst hz0
    have hr2 := run_append_owned_none (P := Try.prog) w base 49 o.type 74 i 4 Try.underlying49 hi _ _ _ hown
    refine wpList_plain hgd fun K hK => ?_
    unfold Oper.wp execOp
    simp only [List.length_nil] at hx
    simp only [ho, resolve, invoke, builtin, Sem.run_bind, Sem.run_pure, Result.andThen_ok, List.map_toArray, List.map_cons, List.map_nil, hs, hx, hr2]
    exact hK _ _ (h c d w (by simpa using hown) (World.grownBy.refl _ _))
  | some ad =>
    refine wpList_plain hgd fun K hK => ?_
    refine wp_append_own w s x 49 ho base 74 i _ 4 32 Try.underlying49 hi hz hsz hby (by rfl) (by decide) (.slice c xs.length d) xs.length (flatTerm xs) hs hown ad ys.length cc (flatTerm ys) hx (flatTerm_len ys) (fun j u hu => ?_) (flatTerm_one ys) (by unfold maxLen; omega) (by omega) hbase ?_
    · rcases hr with h0 | ⟨b, off, h0, hcell⟩
      · subst h0; simp [flatTerm] at hu
      · simp only [Option.some.injEq] at h0
        subst h0
        have h1 := RdTerm.flat (.inr ⟨b, off, rfl, hcell⟩) j u hu
        rw [Addr.add_lit]; exact h1
    · intro v' w' h1 h2 _
      obtain ⟨c', d', rfl⟩ := ownsRow_shape h1
      have h2' : w.grownBy w' (c.map Addr.block) := by cases c <;> exact h2
      refine hK _ _ (h c' d' w' ?_ h2')
      unfold OwnTerm
      rw [List.length_append, flatTerm_app]; exact h1

end Go.Proofs.Ytdggihikkegjjaa
