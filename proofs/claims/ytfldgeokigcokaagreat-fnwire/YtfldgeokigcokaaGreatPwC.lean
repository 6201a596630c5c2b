/- Rows of pieces; what a term's pieces write. -/
import Derived.Test.YtfldgeokigcokaaGreatPwB
import Derived.Test.YtfldgeokigcokaaGreatWrE
namespace Go.Proofs.YtfldgeokigcokaaGreat
open Go.RowKit

theorem Tryz.infoPc : (Tryz.prog.info? 94).map (fun i => (i.zero, i.size, i.bytes)) = some (some .nilIface, 1, 16) := by kernel_rfl

/-- A row of pieces that is the call's own. -/
def OwnV (w : World) (base : Nat) (a : Option Addr) (cap : Nat) (us : List Value) : Prop := w.ownsRow base 94 1 (.slice a us.length cap) us.length us

theorem OwnV.cells {w : World} {base g : Nat} {cap : Nat} {us : List Value} (h : OwnV w base (some ⟨g, 0, none⟩) cap us) : ∀ (j : Nat) u, us[j]? = some u → w.cell? ⟨g, j, none⟩ = some u := by
  intro j u hj
  have hl := (List.getElem?_eq_some_iff.1 hj).1
  rw [World.ownsRow.cellAt h j (by simpa using hl), hj]

theorem OwnV.lt {w : World} {base : Nat} {a : Option Addr} {cap : Nat} {us : List Value} (h : OwnV w base a cap us) : ∀ b, a = some b → base ≤ b.block ∧ b.block < w.heap.size := by
  intro b hb
  subst hb
  exact World.ownsRow.lt h b.block rfl

theorem OwnV.sm {X : Nat → Prop} {w w' : World} {base : Nat} {a : Option Addr} {cap : Nat} {us : List Value} (h : OwnV w base a cap us) (s : Sm X w w') (hx : ∀ b : Addr, a = some b → ¬ X b.block) : OwnV w' base a cap us :=
  ownsRow_sm h s fun k hk => by
    cases a with
    | none => cases hk
    | some b => simp [Value.ownBlock] at hk; subst hk; exact hx b rfl

theorem OwnV.kept {w w' : World} {base : Nat} {a : Option Addr} {cap : Nat} {us : List Value} (h : OwnV w base a cap us) (hb : Below w.heap.size w w') : OwnV w' base a cap us :=
  h.sm (X := fun _ => False) (Sm.below hb) (fun _ _ e => e)

theorem OwnV.lit (w : World) (us : List Value) (hm : us.length ≤ maxLen) : OwnV (w.alloc (.cells us.toArray 94)) w.heap.size (some ⟨w.heap.size, 0, none⟩) us.length us := by
  have h := World.ownsRow_lit (base := w.heap.size) (e := 94) (size := 1) w us.toArray us.length (Nat.le_refl _) hm (by simp)
  simpa [OwnV] using h

theorem OwnV.mono {w : World} {base base' : Nat} {a : Option Addr} {cap : Nat} {us : List Value} (h : OwnV w base a cap us) (hb : base' ≤ base) : OwnV w base' a cap us := by
  obtain ⟨h1, h2⟩ := h
  refine ⟨h1, ?_⟩
  rcases h2 with h2 | ⟨g, cap', cur, hv, hg, r⟩
  · exact .inl h2
  · exact .inr ⟨g, cap', cur, hv, by omega, r⟩

theorem wpList_putV {ops : Array Oper} {rest : List Oper} {o : Oper} {a : Act} {Q : Exit → Act → World → Prop} (w : World) (hgd : o.guard = none) (s x : Operand)
    (ho : o.op = .call { callee := .builtin .append, args := #[s, x], argTypes := #[56, 56] })
    (base : Nat) (c : Option Addr) (d : Nat) (us : List Value) (n : Nat) (hn : us.length = n) (hs : a.eval s = .slice c n d) (hown : OwnV w base c d us)
    (ad : Addr) (cc : Nat) (p : Value) (hp1 : p.oneCell' = true) (hx : a.eval x = .slice (some ad) 1 cc) (hp : w.cell? (ad.add 0) = some p)
    (hlen : n ≤ 1000000) (hbase : base ≤ w.heap.size)
    (h : ∀ g d' w', OwnV w' base (some ⟨g, 0, none⟩) d' (us ++ [p]) → w.grownBy w' (c.map Addr.block) → (∀ j, RowB (some ⟨g, 0, none⟩) j → RowB c j ∨ w.heap.size ≤ j) → wpList Tryz.prog ops Q rest (a.put o.dst (.slice (some ⟨g, 0, none⟩) (n + 1) d')) w') : wpList Tryz.prog ops Q (o :: rest) a w := by
  subst hn
  obtain ⟨i, hi, hz, hsz, hby⟩ : ∃ i, Tryz.prog.info? 94 = some i ∧ i.zero = some .nilIface ∧ i.size = 1 ∧ i.bytes = 16 := by
    have h := Tryz.infoPc
    cases he : Tryz.prog.info? 94 with
    | none => rw [he] at h; cases h
    | some i =>
      rw [he] at h
      simp only [Option.map_some, Option.some.injEq, Prod.mk.injEq] at h
      exact ⟨i, rfl, h.1, h.2.1, h.2.2⟩
  refine wpList_append_lies w hgd s x 56 ho base 94 i _ 1 16 Tryz.underlying56 hi hz hsz hby (by rfl) (by decide) (.slice c us.length d) us.length us hs hown ad 1 cc [p] hx rfl (fun j u hj => ?_) ?_ (by decide) (by unfold maxLen; omega) (by omega) hbase _ rfl ?_
  · match j, hj with
    | 0, hj => simp only [List.getElem?_cons_zero, Option.some.injEq] at hj; rw [← hj]; exact hp
  · intro u hu
    simp only [List.mem_cons, List.not_mem_nil, or_false] at hu
    subst hu; exact hp1
  · intro g cap w' h1 h2 h3 h4
    have e1 : (us ++ [p]).length = us.length + 1 := by simp
    have h2' : w.grownBy w' (c.map Addr.block) := by cases c <;> exact h2
    refine h g cap w' ?_ h2' (fun j hj => ?_)
    · unfold OwnV; rw [e1]; exact h1
    · obtain ⟨b, hb, rfl⟩ := hj
      simp only [Option.some.injEq] at hb
      subst hb
      rcases h3 with h3 | h3
      · left; cases c with
        | none => cases h3
        | some b => exact ⟨b, rfl, by simpa [Value.ownBlock] using h3⟩
      · exact .inr (by simp only; omega)

/-- Pieces of a row, each with the bytes that it writes. -/
structure Pcs (B : Nat) (c : Option Addr) (us : List Value) (bs : List (List Int)) (w : World) : Prop where
  ex : ∃ S : Nat → Prop, (∀ j, S j → B ≤ j ∧ j < w.heap.size ∧ ¬ RowB c j) ∧ ∀ (i : Nat) (u : Value), us[i]? = some u → WP S w u (bs.getD i [])

theorem Pcs.none' {B : Nat} {c : Option Addr} {bs : List (List Int)} {w : World} : Pcs B c [] bs w := ⟨fun _ => False, fun _ h => h.elim, fun i u h => by simp at h⟩

/-- One piece more. -/
theorem Pcs.step {B : Nat} {c c3 : Option Addr} {us : List Value} {bs : List (List Int)} {w w1 w3 : World} {o : Obj} {u1 : Value} (P : Pcs B c us bs w) (b1 : Below w.heap.size w w1) (W1 : WP (fun q => w.heap.size ≤ q ∧ q < w1.heap.size) w1 u1 (bs.getD us.length []))
    (hB : B ≤ w.heap.size) (hc : ∀ j, RowB c j → j < w.heap.size) (hg : (w1.alloc o).grownBy w3 (c.map Addr.block)) (hx : ∀ j, RowB c3 j → RowB c j ∨ (w1.alloc o).heap.size ≤ j) : Pcs B c3 (us ++ [u1]) bs w3 := by
  obtain ⟨S, hS, hW⟩ := P.ex
  have hz1 := b1.size
  have hz2 : (w1.alloc o).heap.size = w1.heap.size + 1 := World.size_alloc _ _
  have hz3 := hg.size
  have far : ∀ j, j < w1.heap.size → ¬ RowB c j → w3.heap[j]? = w1.heap[j]? := fun j h1 h2 => by
    have e1 := hg.block j (by omega) (fun e => h2 (by
      cases c with
      | none => cases e
      | some b => simp only [Option.map_some, Option.some.injEq] at e; exact ⟨b, rfl, e.symm⟩))
    exact e1.trans ((belowA w1 o).block j h1)
  refine ⟨fun j => S j ∨ (w.heap.size ≤ j ∧ j < w1.heap.size), fun j hj => ?_, fun i u hi => ?_⟩
  · rcases hj with hj | hj
    · obtain ⟨h1, h2, h3⟩ := hS j hj
      refine ⟨h1, by omega, fun e => ?_⟩
      rcases hx j e with e | e
      · exact h3 e
      · omega
    · refine ⟨by omega, by omega, fun e => ?_⟩
      rcases hx j e with e | e
      · have := hc j e; omega
      · omega
  · rcases Nat.lt_or_ge i us.length with h | h
    · rw [List.getElem?_append_left h] at hi
      exact (hW i u hi).more (fun k hk => .inl hk) (fun k hk => by
        obtain ⟨h1, h2, h3⟩ := hS k hk
        exact (far k (by omega) h3).trans (b1.block k h2))
    · rw [List.getElem?_append_right h] at hi
      have hi0 : i - us.length = 0 := by
        rcases Nat.eq_zero_or_pos (i - us.length) with e | e
        · exact e
        · rw [List.getElem?_eq_none (by simp; omega)] at hi; cases hi
      rw [hi0] at hi
      simp only [List.getElem?_cons_zero, Option.some.injEq] at hi
      subst hi
      rw [show i = us.length by omega]
      exact W1.more (fun k hk => .inr hk) (fun k hk => far k hk.2 (fun e => by have := hc k e; omega))

theorem Pcs.keep {B : Nat} {c : Option Addr} {us : List Value} {bs : List (List Int)} {w w1 : World} (P : Pcs B c us bs w) (b1 : Below w.heap.size w w1) : Pcs B c us bs w1 := by
  obtain ⟨S, hS, hW⟩ := P.ex
  exact ⟨S, fun j hj => ⟨(hS j hj).1, Nat.lt_of_lt_of_le (hS j hj).2.1 b1.size, (hS j hj).2.2⟩, fun i u hi => (hW i u hi).more (fun _ h => h) (fun k hk => b1.block k (hS k hk).2.1)⟩

/-- All pieces of a row. -/
theorem Pcs.list {B g d n : Nat} {us : List Value} {bs : List (List Int)} {w : World} (P : Pcs B (some ⟨g, 0, none⟩) us bs w) (O : OwnV w B (some ⟨g, 0, none⟩) d us) (hn : us.length = n) (hb : bs.length = n) (h4 : n ≤ 1000) :
    WP (fun q => B ≤ q ∧ q < w.heap.size) w (.iface 56 (.slice (some ⟨g, 0, none⟩) n d)) bs.flatten := by
  obtain ⟨S, hS, hW⟩ := P.ex
  exact wp_list _ w g n d us bs hn hb h4 (O.lt _ rfl) (fun i u hi => O.cells i u hi) (fun i u hi => (hW i u hi).more (fun k hk => ⟨(hS k hk).1, (hS k hk).2.1⟩) (fun _ _ => rfl))

/-- The bytes of a term, told by its parts. -/
def bsL (xs : List T4) (x : T4) : List (List Int) := putN x.o 1 :: (if x.o = 1 ∨ x.o = 2 then [putN x.n 2] else (plD xs x).map fun p => (den xs p.toNat).enc)

theorem putN_of1 {o : Int} (h : 0 ≤ o ∧ o < 256) : putN o 1 = [o] := by
  simp [putN, digitN]; omega

theorem bsL_enc {xs : List T4} (hv : tfC xs = 0) {k : Nat} (hk : k < xs.length) {x : T4} (hx : xs.getD k zTerm = x) : (bsL xs x).flatten = (den xs k).enc := by
  obtain ⟨o, a, b, n⟩ := x
  have k1 := kids1
  have k2 := kids2
  have k3 := kids3
  have k4 := kids4
  have k5 := kids5
  have k6 := kids6
  have k7 := kids7
  unfold bsL plD plc
  simp only
  rcases den_kinds hv k hk o a b n hx with ⟨h, d, n0, n9⟩ | ⟨h, d, _⟩ | ⟨h, d, _⟩ | ⟨h, hc, d, _⟩ | ⟨h, hc, d, _⟩ <;> rw [d]
  · rw [if_pos h, putN_of1 (by omega)]
    simp [putN, digitN, List.range_succ, Tr.enc]
  · subst h
    rw [if_neg (by decide), if_neg (fun e => absurd e.1 (by decide)), k6, putN_of1 (by decide)]
    simp [Tr.enc]
  · rw [if_neg (by omega), if_neg (fun e => by omega), putN_of1 (by omega)]
    have hk2 : kids o = 2 := by rcases h with rfl | rfl | rfl <;> assumption
    rw [if_pos hk2]
    simp [Tr.enc]
  · subst h
    unfold tmAt at hc
    rw [if_neg (by decide), if_neg (fun e => hc e.2), k7, putN_of1 (by decide)]
    simp [Tr.enc]
  · subst h
    unfold tmAt at hc
    rw [if_neg (by decide), if_pos ⟨rfl, hc⟩, putN_of1 (by decide)]
    simp [Tr.enc]

theorem bsL_at {xs : List T4} {x : T4} (h : ¬ (x.o = 1 ∨ x.o = 2)) (q : Nat) (hq : q < (plD xs x).length) {i : Nat} (hi : (plD xs x).getD q 0 = (i : Int)) : (bsL xs x).getD (q + 1) [] = (den xs i).enc := by
  unfold bsL
  rw [if_neg h, List.getD_cons_succ]
  have : (plD xs x)[q] = (i : Int) := by rw [← hi]; simp [List.getD, hq]
  simp [List.getD, hq, this]

theorem bsL_len {xs : List T4} {x : T4} (h : ¬ (x.o = 1 ∨ x.o = 2)) : (bsL xs x).length = (plD xs x).length + 1 := by unfold bsL; rw [if_neg h]; simp

end Go.Proofs.YtfldgeokigcokaaGreat
