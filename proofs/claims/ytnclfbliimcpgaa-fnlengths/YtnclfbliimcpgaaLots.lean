/- Slices of slices of bytes of the call's own that were put together one row behind the other; marks in them. -/
import Derived.Test.YtnclfbliimcpgaaSlicesD
import Derived.Deep.AppendLies
namespace Go.Proofs.Ytnclfbliimcpgaa
open Go.RowKit

/-- A row of the call's own: its address, its room, its numbers. -/
abbrev Lot := Option Addr × Nat × List Int

def rowT (p : Lot) : Value := .slice p.1 p.2.2.length p.2.1

def lotsOf (ps : List Lot) : List (List Int) := ps.map fun p => p.2.2

/-- Two addresses do not share a block. -/
def apart (a b : Option Addr) : Prop := ∀ x y, a = some x → b = some y → x.block ≠ y.block

/-- A slice of slices of the call's own: each row apart from the others and from the slice itself. -/
def OwnT (w : World) (base : Nat) (c : Option Addr) (d : Nat) (ps : List Lot) : Prop :=
  w.ownsRow base 22 1 (.slice c ps.length d) ps.length (ps.map rowT) ∧ (∀ p ∈ ps, Own .u8 5 w base p.1 p.2.1 p.2.2 ∧ apart p.1 c) ∧ ps.Pairwise fun p q => apart p.1 q.1

theorem OwnT.kept {w w' : World} {base : Nat} {c : Option Addr} {d : Nat} {ps : List Lot} (h : OwnT w base c d ps) (hb : Below w.heap.size w w') : OwnT w' base c d ps :=
  ⟨World.ownsRow.kept h.1 (Below.grownBy hb none) (by cases c <;> simp [Value.ownBlock]), fun p hp => ⟨(h.2.1 p hp).1.kept hb, (h.2.1 p hp).2⟩, h.2.2⟩

theorem OwnT.nil {w : World} {base : Nat} : OwnT w base none 0 [] := ⟨World.ownsRow_nil _ _ _ _, by simp, List.Pairwise.nil⟩

theorem OwnT.below {w : World} {base : Nat} {c : Option Addr} {d : Nat} {ps : List Lot} (h : OwnT w base c d ps) {p : Addr} (hp : p.block < base) (u : Value) : OwnT (w.setCell p u) base c d ps :=
  ⟨ownsRow_setCell_below h.1 hp u, fun q hq => ⟨(h.2.1 q hq).1.below hp u, (h.2.1 q hq).2⟩, h.2.2⟩

theorem Own.nocap {k : IntKind} {e : TypeId} {w : World} {base : Nat} {a : Option Addr} {cap : Nat} {zs : List Int} (h : Own k e w base a cap zs) : a = none → cap = 0 := by
  intro ha
  subst ha
  rcases h.2 with ⟨h0, _⟩ | ⟨g, cap', cur, hv, _⟩
  · simp only [Value.slice.injEq, true_and] at h0
    exact h0.2
  · simp at hv

theorem OwnT.rd {w : World} {base : Nat} {c : Option Addr} {d : Nat} {ps : List Lot} (h : OwnT w base c d ps) : RdR w c (lotsOf ps) := by
  rcases h.1.2 with ⟨_, h0⟩ | ⟨g, cap', cur, hv, _⟩
  · left
    have : ps = [] := List.eq_nil_of_length_eq_zero h0
    simp [lotsOf, this]
  · simp only [Value.slice.injEq, true_and] at hv
    obtain ⟨rfl, rfl⟩ := hv
    right
    refine ⟨g, 0, rfl, fun i hi => ?_⟩
    have hi' : i < ps.length := by simpa [lotsOf] using hi
    have e : (lotsOf ps).getD i [] = ps[i].2.2 := by simp [lotsOf, List.getD, hi']
    have ho := (h.2.1 _ (List.getElem_mem hi')).1
    refine ⟨ps[i].1, ps[i].2.1, ?_, ?_, ho.nocap⟩
    · rw [Nat.zero_add, World.ownsRow.cellAt h.1 i (by omega), e]
      simp [rowT, hi']
    · rw [e]
      exact ho.rd

theorem OwnT.lt {w : World} {base : Nat} {c : Option Addr} {d : Nat} {ps : List Lot} (h : OwnT w base c d ps) : ∀ b, c = some b → base ≤ b.block ∧ b.block < w.heap.size := by
  intro b hb
  subst hb
  exact World.ownsRow.lt h.1 b.block rfl

/-- One row more: it was made behind all that was there, and then appended. -/
theorem OwnT.add {w w1 w2 : World} {base : Nat} {c : Option Addr} {d : Nat} {ps : List Lot} (h : OwnT w base c d ps) {p : Lot} (b1 : Below w.heap.size w w1) (o1 : Own .u8 5 w1 w.heap.size p.1 p.2.1 p.2.2) (hbase : base ≤ w.heap.size) {o : Obj} {g cap H : Nat}
    (hown : w2.ownsRow base 22 1 (.slice (some ⟨g, 0, none⟩) (ps.length + 1) cap) (ps.length + 1) (ps.map rowT ++ [rowT p])) (hg : (w1.alloc o).grownBy w2 (c.map Addr.block)) (hat : c.map Addr.block = some g ∨ g = H) (hH : w1.heap.size + 1 = H) :
    OwnT w2 base (some ⟨g, 0, none⟩) cap (ps ++ [p]) := by
  have hc := h.lt
  have hg0 : ∀ x y : Addr, c = some y → x.block ≠ y.block → x.block < w1.heap.size → x.block ≠ g := by
    intro x y hy hne hlt e
    rcases hat with ha | ha
    · subst hy; simp at ha; omega
    · omega
  have hg1 : ∀ x : Addr, (∀ y, c = some y → x.block ≠ y.block) → x.block < w1.heap.size → x.block ≠ g := by
    intro x hne hlt e
    rcases hat with ha | ha
    · cases c with
      | none => simp at ha
      | some y => simp at ha; exact hne y rfl (by omega)
    · omega
  have hsz := b1.size
  refine ⟨by simpa using hown, fun q hq => ?_, ?_⟩
  · rcases List.mem_append.1 hq with hq | hq
    · have h1 := h.2.1 q hq
      have hb : ∀ x, q.1 = some x → ∀ y, c = some y → x.block ≠ y.block := fun x hx y hy => h1.2 x y hx hy
      have hl : ∀ x, q.1 = some x → x.block < w.heap.size := fun x hx => (h1.1.lt x hx).2
      refine ⟨((h1.1.kept b1).kept (belowA w1 o)).grown hg fun x hx e => ?_, fun x y hx hy => ?_⟩
      · cases c with
        | none => simp at e
        | some y => simp at e; exact hb x hx y rfl e.symm
      · simp at hy; subst hy
        exact hg1 x (hb x hx) (by have := hl x hx; omega)
    · simp at hq; subst hq
      have hl := o1.lt
      refine ⟨((o1.kept (belowA w1 o)).grown hg fun x hx e => ?_).mono hbase, fun x y hx hy => ?_⟩
      · cases c with
        | none => simp at e
        | some y => simp at e; have := hl x hx; have := hc y rfl; omega
      · simp at hy; subst hy
        exact hg1 x (fun y hy e => by have := hl x hx; have := hc y hy; omega) (hl x hx).2
  · rw [List.pairwise_append]
    refine ⟨h.2.2, List.pairwise_singleton _ _, fun q hq r hr => ?_⟩
    simp at hr; subst hr
    intro x y hx hy e
    have := ((h.2.1 q hq).1.lt x hx).2
    have := (o1.lt y hy).1
    omega

/-- What a row that is written turns: nothing of the others. -/
theorem OwnT.set {w w' : World} {base : Nat} {c : Option Addr} {d : Nat} {us bs : List Lot} {p : Lot} (h : OwnT w base c d (us ++ p :: bs)) {ms : List Int} (hm : ms.length = p.2.2.length) (hO : Own .u8 5 w' base p.1 p.2.1 ms) (hg : w.grownBy w' (p.1.map Addr.block)) :
    OwnT w' base c d (us ++ (p.1, p.2.1, ms) :: bs) := by
  have hp := h.2.1 p (by simp)
  have hpw := h.2.2
  rw [List.pairwise_append] at hpw
  obtain ⟨pa, pb, pc⟩ := hpw
  rw [List.pairwise_cons] at pb
  refine ⟨?_, fun q hq => ?_, ?_⟩
  · have h1 := World.ownsRow.kept h.1 hg (by
      cases c with
      | none => exact .inl rfl
      | some y =>
        refine .inr fun e => ?_
        cases hp1 : p.1 with
        | none => rw [hp1] at e; simp [Value.ownBlock] at e
        | some x => rw [hp1] at e; simp [Value.ownBlock] at e; exact hp.2 x y hp1 rfl (by omega))
    simpa [rowT, hm] using h1
  · have ap : ∀ q ∈ us ++ p :: bs, apart q.1 p.1 → Own .u8 5 w' base q.1 q.2.1 q.2.2 := fun q hq ha =>
      (h.2.1 q hq).1.grown hg fun x hx e => by
        cases hp1 : p.1 with
        | none => rw [hp1] at e; simp at e
        | some y => rw [hp1] at e; simp at e; exact ha x y hx hp1 (by omega)
    rcases List.mem_append.1 hq with hq' | hq'
    · exact ⟨ap q (by simp [hq']) (pc q hq' p (by simp)), (h.2.1 q (by simp [hq'])).2⟩
    · rcases List.mem_cons.1 hq' with rfl | hq'
      · exact ⟨hO, hp.2⟩
      · exact ⟨ap q (by simp [hq']) (fun x y hx hy e => pb.1 q hq' y x hy hx e.symm), (h.2.1 q (by simp [hq'])).2⟩
  · rw [List.pairwise_append, List.pairwise_cons]
    exact ⟨pa, ⟨fun q hq => pb.1 q hq, pb.2⟩, fun q hq r hr => by
      rcases List.mem_cons.1 hr with rfl | hr
      · exact pc q hq p (by simp)
      · exact pc q hq r (by simp [hr])⟩

theorem lotsOf_append (a b : List Lot) : lotsOf (a ++ b) = lotsOf a ++ lotsOf b := by simp [lotsOf]

/-- The marks that go on from row to row. -/
def markLists : Int → List (List Int) → List (List Int)
  | _, [] => []
  | q, z :: r => marks q z.length :: markLists (q + (z.length : Int)) r

theorem length_markLists : ∀ (q : Int) (zss : List (List Int)), (markLists q zss).length = zss.length
  | _, [] => rfl
  | q, z :: r => by simp [markLists, length_markLists _ r]

theorem markLists_at : ∀ (q : Int) (zss : List (List Int)) (k : Nat), k < zss.length → (markLists q zss).getD k [] = marks (q + (total (zss.take k) : Int)) (zss.getD k []).length
  | q, z :: r, 0, _ => by simp [markLists, total]
  | q, z :: r, k + 1, h => by
    have h1 := markLists_at (q + (z.length : Int)) r k (by simpa using h)
    simp [markLists, total] at h1 ⊢
    rw [h1, ← Int.add_assoc]

/-- Rows of which the first k bear their marks. -/
def markTo (q : Int) : List Lot → Nat → List Lot
  | ps, 0 => ps
  | [], _ + 1 => []
  | p :: r, k + 1 => (p.1, p.2.1, marks q p.2.2.length) :: markTo (q + (p.2.2.length : Int)) r k

theorem markTo_split : ∀ (q : Int) (ps : List Lot) (k : Nat), (h : k < ps.length) → ∃ us bs, markTo q ps k = us ++ ps[k] :: bs ∧ us.length = k ∧
    markTo q ps (k + 1) = us ++ (ps[k].1, ps[k].2.1, marks (q + (total (lotsOf (ps.take k)) : Int)) ps[k].2.2.length) :: bs
  | q, p :: r, 0, _ => ⟨[], r, by simp [markTo], rfl, by simp [markTo, total, lotsOf]⟩
  | q, p :: r, k + 1, h => by
    obtain ⟨us, bs, h1, h2, h3⟩ := markTo_split (q + (p.2.2.length : Int)) r k (by simpa using h)
    refine ⟨(p.1, p.2.1, marks q p.2.2.length) :: us, bs, by simp [markTo, h1], by simp [h2], ?_⟩
    rw [markTo, h3]
    simp [total, lotsOf, Int.add_assoc]

theorem markTo_all : ∀ (q : Int) (ps : List Lot), lotsOf (markTo q ps ps.length) = markLists q (lotsOf ps)
  | _, [] => rfl
  | q, p :: r => by
    have h := markTo_all (q + (p.2.2.length : Int)) r
    simp [lotsOf, markTo, markLists] at h ⊢
    exact h

theorem length_markTo : ∀ (q : Int) (ps : List Lot) (k : Nat), (markTo q ps k).length = ps.length
  | _, _, 0 => by simp [markTo]
  | _, [], _ + 1 => by simp [markTo]
  | q, p :: r, k + 1 => by simp [markTo, length_markTo _ r k]

/-- In which blocks the rows lie. -/
def spanT (c : Option Addr) (ps : List Lot) (lo hi : Nat) : Prop := (∀ b, c = some b → lo ≤ b.block ∧ b.block < hi) ∧ ∀ p ∈ ps, ∀ b, p.1 = some b → lo ≤ b.block ∧ b.block < hi

theorem OwnT.span {w : World} {base : Nat} {c : Option Addr} {d : Nat} {ps : List Lot} (h : OwnT w base c d ps) : spanT c ps base w.heap.size :=
  ⟨h.lt, fun p hp => (h.2.1 p hp).1.lt⟩

theorem ownsRow_block {w w' : World} {base : Nat} {e : TypeId} {a : Option Addr} {n cap : Nat} {xs : List Value} (h : w.ownsRow base e 1 (.slice a n cap) n xs) (hb : ∀ b, a = some b → w'.heap[b.block]? = w.heap[b.block]?) : w'.ownsRow base e 1 (.slice a n cap) n xs := by
  refine ⟨h.1, ?_⟩
  rcases h.2 with h2 | ⟨g, cap', cur, hv, hg, hh, r⟩
  · exact .inl h2
  · have hv' := hv
    simp only [Value.slice.injEq, true_and] at hv'
    exact .inr ⟨g, cap', cur, hv, hg, (hb _ hv'.1).trans hh, r⟩

theorem OwnT.far {w w' : World} {base lo hi : Nat} {c : Option Addr} {d : Nat} {ps : List Lot} (h : OwnT w base c d ps) (s : spanT c ps lo hi) (he : ∀ k, lo ≤ k → k < hi → w'.heap[k]? = w.heap[k]?) : OwnT w' base c d ps :=
  ⟨ownsRow_block h.1 fun b hb => he _ (s.1 b hb).1 (s.1 b hb).2, fun p hp => ⟨ownsRow_block (h.2.1 p hp).1 fun b hb => he _ (s.2 p hp b hb).1 (s.2 p hp b hb).2, (h.2.1 p hp).2⟩, h.2.2⟩

/-- One row more: it lies behind all that was there, and then it is appended. -/
theorem OwnT.add2 {w1 w2 : World} {base M : Nat} {c : Option Addr} {d : Nat} {ps : List Lot} (h : OwnT w1 base c d ps) (s : spanT c ps base M) {p : Lot} (o1 : Own .u8 5 w1 M p.1 p.2.1 p.2.2) (hbase : base ≤ M) {o : Obj} {g cap H : Nat}
    (hown : w2.ownsRow base 22 1 (.slice (some ⟨g, 0, none⟩) (ps.length + 1) cap) (ps.length + 1) (ps.map rowT ++ [rowT p])) (hg : (w1.alloc o).grownBy w2 (c.map Addr.block)) (hat : c.map Addr.block = some g ∨ g = H) (hH : w1.heap.size + 1 = H) :
    OwnT w2 base (some ⟨g, 0, none⟩) cap (ps ++ [p]) := by
  have hc := s.1
  have hg1 : ∀ x : Addr, (∀ y, c = some y → x.block ≠ y.block) → x.block < w1.heap.size → x.block ≠ g := by
    intro x hne hlt e
    rcases hat with ha | ha
    · cases c with
      | none => simp at ha
      | some y => simp at ha; exact hne y rfl (by omega)
    · omega
  refine ⟨by simpa using hown, fun q hq => ?_, ?_⟩
  · rcases List.mem_append.1 hq with hq | hq
    · have h1 := h.2.1 q hq
      have hb : ∀ x, q.1 = some x → ∀ y, c = some y → x.block ≠ y.block := fun x hx y hy => h1.2 x y hx hy
      have hl : ∀ x, q.1 = some x → x.block < w1.heap.size := fun x hx => (h1.1.lt x hx).2
      refine ⟨(h1.1.kept (belowA w1 o)).grown hg fun x hx e => ?_, fun x y hx hy => ?_⟩
      · cases c with
        | none => simp at e
        | some y => simp at e; exact hb x hx y rfl e.symm
      · simp at hy; subst hy
        exact hg1 x (hb x hx) (hl x hx)
    · simp at hq; subst hq
      have hl := o1.lt
      refine ⟨((o1.kept (belowA w1 o)).grown hg fun x hx e => ?_).mono hbase, fun x y hx hy => ?_⟩
      · cases c with
        | none => simp at e
        | some y => simp at e; have := hl x hx; have := hc y rfl; omega
      · simp at hy; subst hy
        exact hg1 x (fun y hy e => by have := hl x hx; have := hc y hy; omega) (hl x hx).2
  · rw [List.pairwise_append]
    refine ⟨h.2.2, List.pairwise_singleton _ _, fun q hq r hr => ?_⟩
    simp at hr; subst hr
    intro x y hx hy e
    have := (s.2 q hq x hx).2
    have := (o1.lt y hy).1
    omega

/-- A row in another's stead. -/
theorem OwnT.put {w : World} {base M g d : Nat} {us bs : List Lot} {p0 p : Lot} (h : OwnT w base (some ⟨g, 0, none⟩) d (us ++ p0 :: bs)) (s : spanT (some ⟨g, 0, none⟩) (us ++ p0 :: bs) base M) (o1 : Own .u8 5 w M p.1 p.2.1 p.2.2) (hM : base ≤ M) {k n : Nat} (hk : us.length = k) (hn : (us ++ p0 :: bs).length = n) (hkn : k < n) :
    OwnT (w.setCell ⟨g, k, none⟩ (rowT p)) base (some ⟨g, 0, none⟩) d (us ++ p :: bs) := by
  subst hn hk
  have hs := h.1.stored us.length (rowT p)
  have hgM := (s.1 _ rfl).2
  simp at hgM
  refine ⟨?_, fun q hq => ?_, ?_⟩
  · have h1 := hs.1
    simp at h1 ⊢
    exact h1
  · rcases List.mem_append.1 hq with hq | hq
    · have h1 := h.2.1 q (by simp [hq])
      exact ⟨h1.1.grown hs.2 fun x hx e => by have := h1.2 x _ hx rfl; simp at e this; omega, h1.2⟩
    · rcases List.mem_cons.1 hq with rfl | hq
      · have hl := o1.lt
        exact ⟨(o1.grown hs.2 fun x hx e => by have := hl x hx; simp at e; omega).mono hM, fun x y hx hy e => by simp at hy; subst hy; have := hl x hx; simp at e; omega⟩
      · have h1 := h.2.1 q (by simp [hq])
        exact ⟨h1.1.grown hs.2 fun x hx e => by have := h1.2 x _ hx rfl; simp at e this; omega, h1.2⟩
  · have hpw := h.2.2
    rw [List.pairwise_append, List.pairwise_cons] at hpw ⊢
    obtain ⟨pa, pb, pc⟩ := hpw
    have far : ∀ q ∈ us ++ p0 :: bs, apart q.1 p.1 := fun q hq x y hx hy e => by
      have := (s.2 q hq x hx).2
      have := (o1.lt y hy).1
      omega
    exact ⟨pa, ⟨fun q hq x y hx hy e => far q (by simp [hq]) y x hy hx e.symm, pb.2⟩, fun q hq r hr => by
      rcases List.mem_cons.1 hr with rfl | hr
      · exact far q (by simp [hq])
      · exact pc q hq r (by simp [hr])⟩

theorem OwnT.mono {w : World} {base base' : Nat} {c : Option Addr} {d : Nat} {ps : List Lot} (h : OwnT w base c d ps) (hb : base' ≤ base) : OwnT w base' c d ps := by
  refine ⟨?_, fun p hp => ⟨(h.2.1 p hp).1.mono hb, (h.2.1 p hp).2⟩, h.2.2⟩
  obtain ⟨h1, h2⟩ := h.1
  refine ⟨h1, ?_⟩
  rcases h2 with h2 | ⟨g, cap', cur, hv, hg, r⟩
  · exact .inl h2
  · exact .inr ⟨g, cap', cur, hv, by omega, r⟩

theorem grown_set (w : World) (a : Addr) (u : Value) : w.grownBy (w.setCell a u) (some a.block) :=
  ⟨rfl, rfl, rfl, by simp [World.setCell], fun k _ hk => Below.heap_setCell _ _ _ _ (fun e => hk (by simp [e]))⟩

end Go.Proofs.Ytnclfbliimcpgaa
