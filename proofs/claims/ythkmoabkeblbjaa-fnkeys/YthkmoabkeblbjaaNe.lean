/- Put together: KzM, KzN. -/
import Derived.Test.YthkmoabkeblbjaaKzA
import Derived.Test.YthkmoabkeblbjaaNd
import Derived.Test.YthkmoabkeblbjaaNt
import Derived.Test.YthkmoabkeblbjaaMg
import Derived.Test.YthkmoabkeblbjaaNc
import Derived.Test.YthkmoabkeblbjaaNo

/- What stands in a table behind a proof or keys were made: plain sums. -/
namespace Go.Proofs.Ythkmoabkeblbjaa
open Go.RowKit

/-- A term stands at a place. -/
def Rt (T : List T4) (p : Int) (t : T4) : Prop := 0 ≤ p ∧ p < T.length ∧ tmAt T p = t

/-- A table behind which terms were put. -/
def Ext (T U : List T4) : Prop := ∃ ys, U = T ++ ys

theorem Ext.refl (T : List T4) : Ext T T := ⟨[], by simp⟩

theorem Ext.trans {A B C : List T4} (h : Ext A B) (k : Ext B C) : Ext A C := by
  obtain ⟨x, rfl⟩ := h
  obtain ⟨y, rfl⟩ := k
  exact ⟨x ++ y, by rw [List.append_assoc]⟩

theorem Ext.len {A B : List T4} (h : Ext A B) : A.length ≤ B.length := by
  obtain ⟨x, rfl⟩ := h
  rw [List.length_append]; omega

theorem Rt.more {T U : List T4} {p : Int} {t : T4} (h : Rt T p t) (k : Ext T U) : Rt U p t := by
  obtain ⟨ys, rfl⟩ := k
  obtain ⟨h0, h1, h2⟩ := h
  exact ⟨h0, by rw [List.length_append]; omega, by rw [tmAt_app T ys p h0 h1]; exact h2⟩

theorem Rt.one {T : List T4} {p : Int} {t u : T4} (h : Rt T p t) (k : Rt T p u) : t = u := h.2.2.symm.trans k.2.2

theorem put_there {T : List T4} (h : tfC T = 0) {t : T4} {p : Int} (r : Rt T p t) : put T t = ⟨0, p, T⟩ := by
  obtain ⟨h0, h1, h2⟩ := r
  have hk : p.toNat < T.length := by omega
  have h5 : T.getD p.toNat zTerm = t := h2
  have hz := (tfC_zero h).2 p.toNat hk
  rw [h5] at hz
  have hm : t ∈ T := by rw [← h5]; exact getDTerm_mem hk
  have hi := idx_once (fun k hk => ((tfC_zero h).2 k hk).2) hk
  rw [h5] at hi
  rcases put_ways T t with ⟨e, _⟩ | ⟨_, _, e⟩ | ⟨_, e, _⟩ | ⟨_, e, _⟩
  · exact absurd (tmC_more (Nat.le_of_lt hk) hz.1) e
  · rw [e, hi]
    have : ((p.toNat : Nat) : Int) = p := by omega
    rw [this]
  · exact absurd hm e
  · exact absurd hm e

theorem mk_there {T : List T4} (h : tfC T = 0) {t : T4} {p : Int} (r : Rt T p t) : mkPut ⟨T, 0⟩ t = ⟨T, 0⟩ ∧ mkAt ⟨T, 0⟩ t = p := by
  have e := put_there h r
  unfold mkPut mkAt
  simp only [e, if_true, and_self]

/-- One step of a run. -/
theorem mk_step {m m' : Mk} {t : T4} {v : Int} (e : mkPut m t = m') (f : mkAt m t = v) (hc : m'.c = 0) : m.c = 0 ∧ (tfC m.l = 0 → tfC m'.l = 0 ∧ Ext m.l m'.l ∧ Rt m'.l v t) := by
  have h0 : m.c = 0 := mkPut_mono (t := t) (by rw [e]; exact hc)
  refine ⟨h0, fun h => ?_⟩
  have h1 : (put m.l t).c = 0 := by rw [← mkPut_c h0, e]; exact hc
  obtain ⟨a1, a2, a3, a4, a5⟩ := put_right h h1
  have el : m'.l = (put m.l t).l := by rw [← e]; exact mkPut_l h0 h1
  rw [← f, mkAt_good h0, el]
  exact ⟨a1, a2, a3, a4, a5⟩

/-- What a proof is made of. -/
def Prf (T : List T4) (shared first nonce key id P : Int) : Prop :=
  ∃ n9 p ni q r l, Rt T n9 ⟨1, 0, 0, 9⟩ ∧ Rt T p ⟨4, shared, n9, 0⟩ ∧ Rt T ni ⟨1, 0, 0, id⟩ ∧ Rt T q ⟨4, key, ni, 0⟩ ∧ Rt T r ⟨3, nonce, q, 0⟩ ∧ Rt T l ⟨3, first, r, 0⟩ ∧ Rt T P ⟨4, p, l, 0⟩

theorem Prf.more {T U : List T4} {shared first nonce key id P : Int} (h : Prf T shared first nonce key id P) (k : Ext T U) : Prf U shared first nonce key id P := by
  obtain ⟨n9, p, ni, q, r, l, a, b, c, d, e, f, g⟩ := h
  exact ⟨n9, p, ni, q, r, l, a.more k, b.more k, c.more k, d.more k, e.more k, f.more k, g.more k⟩

theorem Prf.inj {T : List T4} {shared first nonce key id first' nonce' id' P : Int} (h : Prf T shared first nonce key id P) (h' : Prf T shared first' nonce' key id' P) : first = first' ∧ nonce = nonce' ∧ id = id' := by
  obtain ⟨n9, p, ni, q, r, l, a, b, c, d, e, f, g⟩ := h
  obtain ⟨n9', p', ni', q', r', l', a', b', c', d', e', f', g'⟩ := h'
  have x := g.one g'
  simp only [T4.mk.injEq, true_and, and_true] at x
  obtain ⟨rfl, rfl⟩ := x
  have x := f.one f'
  simp only [T4.mk.injEq, true_and, and_true] at x
  obtain ⟨rfl, rfl⟩ := x
  have x := e.one e'
  simp only [T4.mk.injEq, true_and, and_true] at x
  obtain ⟨rfl, rfl⟩ := x
  have x := d.one d'
  simp only [T4.mk.injEq, true_and, and_true] at x
  subst x
  have x := c.one c'
  simp only [T4.mk.injEq, true_and] at x
  exact ⟨rfl, rfl, x⟩

theorem prP_made {xs : List T4} {shared first nonce key id : Int} (h : tfC xs = 0) (hc : (prP ⟨xs, 0⟩ shared first nonce key id).1.c = 0) :
    tfC (prP ⟨xs, 0⟩ shared first nonce key id).1.l = 0 ∧ Ext xs (prP ⟨xs, 0⟩ shared first nonce key id).1.l ∧ Prf (prP ⟨xs, 0⟩ shared first nonce key id).1.l shared first nonce key id (prP ⟨xs, 0⟩ shared first nonce key id).2 := by
  unfold prP prfL prB prA at *
  simp only [mkL, mk2] at *
  obtain ⟨m1, e1⟩ : ∃ P, mkPut ⟨xs, 0⟩ ⟨1, 0, 0, 9⟩ = P := ⟨_, rfl⟩
  obtain ⟨v1, f1⟩ : ∃ P, mkAt ⟨xs, 0⟩ ⟨1, 0, 0, 9⟩ = P := ⟨_, rfl⟩
  simp only [e1, f1] at hc ⊢
  obtain ⟨m2, e2⟩ : ∃ P, mkPut m1 ⟨4, shared, v1, 0⟩ = P := ⟨_, rfl⟩
  obtain ⟨v2, f2⟩ : ∃ P, mkAt m1 ⟨4, shared, v1, 0⟩ = P := ⟨_, rfl⟩
  simp only [e2, f2] at hc ⊢
  obtain ⟨m3, e3⟩ : ∃ P, mkPut m2 ⟨1, 0, 0, id⟩ = P := ⟨_, rfl⟩
  obtain ⟨v3, f3⟩ : ∃ P, mkAt m2 ⟨1, 0, 0, id⟩ = P := ⟨_, rfl⟩
  simp only [e3, f3] at hc ⊢
  obtain ⟨m4, e4⟩ : ∃ P, mkPut m3 ⟨4, key, v3, 0⟩ = P := ⟨_, rfl⟩
  obtain ⟨v4, f4⟩ : ∃ P, mkAt m3 ⟨4, key, v3, 0⟩ = P := ⟨_, rfl⟩
  simp only [e4, f4] at hc ⊢
  obtain ⟨m5, e5⟩ : ∃ P, mkPut m4 ⟨3, nonce, v4, 0⟩ = P := ⟨_, rfl⟩
  obtain ⟨v5, f5⟩ : ∃ P, mkAt m4 ⟨3, nonce, v4, 0⟩ = P := ⟨_, rfl⟩
  simp only [e5, f5] at hc ⊢
  obtain ⟨m6, e6⟩ : ∃ P, mkPut m5 ⟨3, first, v5, 0⟩ = P := ⟨_, rfl⟩
  obtain ⟨v6, f6⟩ : ∃ P, mkAt m5 ⟨3, first, v5, 0⟩ = P := ⟨_, rfl⟩
  simp only [e6, f6] at hc ⊢
  obtain ⟨m7, e7⟩ : ∃ P, mkPut m6 ⟨4, v2, v6, 0⟩ = P := ⟨_, rfl⟩
  obtain ⟨v7, f7⟩ : ∃ P, mkAt m6 ⟨4, v2, v6, 0⟩ = P := ⟨_, rfl⟩
  simp only [e7, f7] at hc ⊢
  obtain ⟨c6, g7⟩ := mk_step e7 f7 hc
  obtain ⟨c5, g6⟩ := mk_step e6 f6 c6
  obtain ⟨c4, g5⟩ := mk_step e5 f5 c5
  obtain ⟨c3, g4⟩ := mk_step e4 f4 c4
  obtain ⟨c2, g3⟩ := mk_step e3 f3 c3
  obtain ⟨c1, g2⟩ := mk_step e2 f2 c2
  obtain ⟨_, g1⟩ := mk_step e1 f1 c1
  obtain ⟨t1, x1, r1⟩ := g1 h
  obtain ⟨t2, x2, r2⟩ := g2 t1
  obtain ⟨t3, x3, r3⟩ := g3 t2
  obtain ⟨t4, x4, r4⟩ := g4 t3
  obtain ⟨t5, x5, r5⟩ := g5 t4
  obtain ⟨t6, x6, r6⟩ := g6 t5
  obtain ⟨t7, x7, r7⟩ := g7 t6
  have y6 := x7
  have y5 := x6.trans y6
  have y4 := x5.trans y5
  have y3 := x4.trans y4
  have y2 := x3.trans y3
  have y1 := x2.trans y2
  exact ⟨t7, x1.trans y1, v1, v2, v3, v4, v5, v6, r1.more y1, r2.more y2, r3.more y3, r4.more y4, r5.more y5, r6.more y6, r7⟩

theorem prP_there {T : List T4} {shared first nonce key id P : Int} (h : tfC T = 0) (k : Prf T shared first nonce key id P) : prP ⟨T, 0⟩ shared first nonce key id = (⟨T, 0⟩, P) := by
  obtain ⟨n9, p, ni, q, r, l, a, b, c, d, e, f, g⟩ := k
  simp only [prP, prfL, prB, prA, mkL, mk2, (mk_there h a).1, (mk_there h a).2, (mk_there h b).1, (mk_there h b).2, (mk_there h c).1, (mk_there h c).2, (mk_there h d).1, (mk_there h d).2, (mk_there h e).1, (mk_there h e).2, (mk_there h f).1, (mk_there h f).2, (mk_there h g).1, (mk_there h g).2]

/-- What is asked of a table is asked of a longer one. -/
theorem aq_more {xs T : List T4} {ps : List Int} (h : aqC xs ps = 0) (ht : tfC T = 0) (k : Ext xs T) : aqC T ps = 0 := by
  have hp := aq_places h
  have hl := k.len
  unfold aqC
  rw [if_pos ht, if_pos]
  rw [List.all_eq_true]
  intro z hz
  rw [btw_iff]
  have := hp z hz
  omega

theorem mp_made {xs : List T4} {shared first nonce key id : Int} (hc : (mpR xs shared first nonce key id).c = 0) : aqC xs [shared, first, nonce, key] = 0 ∧ btw id 0 9999 = true ∧ tfC (mpR xs shared first nonce key id).l = 0 ∧ Ext xs (mpR xs shared first nonce key id).l ∧ Prf (mpR xs shared first nonce key id).l shared first nonce key id (mpR xs shared first nonce key id).k := by
  rcases mp_ways xs shared first nonce key id with ⟨h1, e⟩ | ⟨_, _, e⟩ | ⟨_, _, h1, e⟩ | ⟨h1, h2, h3, e⟩
  · rw [e] at hc; exact absurd hc h1
  · rw [e] at hc; exact absurd hc (by decide)
  · rw [e] at hc; exact absurd hc h1
  · rw [e]
    exact ⟨h1, h2, prP_made (aq_table h1) h3⟩

theorem mp_there {T : List T4} {shared first nonce key id P : Int} (h : aqC T [shared, first, nonce, key] = 0) (hi : btw id 0 9999 = true) (k : Prf T shared first nonce key id P) : mpR T shared first nonce key id = ⟨0, P, T⟩ := by
  have e := prP_there (aq_table h) k
  rcases mp_ways T shared first nonce key id with ⟨h1, _⟩ | ⟨_, h1, _⟩ | ⟨_, _, h1, _⟩ | ⟨_, _, _, e2⟩
  · exact absurd h h1
  · rw [hi] at h1; cases h1
  · rw [e] at h1; exact absurd rfl h1
  · rw [e2, e]

/-- FnProofs: the same once more. -/
theorem proofs_again {xs : List T4} {shared first nonce key id : Int} (hc : (mpR xs shared first nonce key id).c = 0) : mpR (mpR xs shared first nonce key id).l shared first nonce key id = ⟨0, (mpR xs shared first nonce key id).k, (mpR xs shared first nonce key id).l⟩ := by
  obtain ⟨h1, h2, h3, h4, h5⟩ := mp_made hc
  exact mp_there (aq_more h1 h3 h4) h2 h5

/-- FnProofs: another number. -/
theorem proofs_other {xs : List T4} {shared first nonce key id id' : Int} (hc : (mpR xs shared first nonce key id).c = 0) (hc' : (mpR (mpR xs shared first nonce key id).l shared first nonce key id').c = 0) : (mpR (mpR xs shared first nonce key id).l shared first nonce key id').k = (mpR xs shared first nonce key id).k ↔ id' = id := by
  obtain ⟨h1, h2, h3, h4, h5⟩ := mp_made hc
  obtain ⟨_, _, g3, g4, g5⟩ := mp_made hc'
  constructor
  · intro e
    rw [e] at g5
    exact (g5.inj (h5.more g4)).2.2
  · rintro rfl
    rw [proofs_again hc]

/-- FnProofs: nonce and message the other way round. -/
theorem proofs_turned {xs : List T4} {shared first nonce key id : Int} (hc : (mpR xs shared first nonce key id).c = 0) (hc' : (mpR (mpR xs shared first nonce key id).l shared nonce first key id).c = 0) : (mpR (mpR xs shared first nonce key id).l shared nonce first key id).k = (mpR xs shared first nonce key id).k ↔ first = nonce := by
  obtain ⟨h1, h2, h3, h4, h5⟩ := mp_made hc
  obtain ⟨_, _, g3, g4, g5⟩ := mp_made hc'
  constructor
  · intro e
    rw [e] at g5
    exact (g5.inj (h5.more g4)).2.1
  · rintro rfl
    rw [proofs_again hc]

end Go.Proofs.Ythkmoabkeblbjaa

/- What stands in a table behind keys were made: plain sums. -/
namespace Go.Proofs.Ythkmoabkeblbjaa
open Go.RowKit

/-- A list of names: a number and the two of the agreement. -/
def Nms (T : List T4) (k si sr L : Int) : Prop :=
  ∃ a b c l, Rt T a ⟨1, 0, 0, k⟩ ∧ Rt T b ⟨1, 0, 0, si⟩ ∧ Rt T c ⟨1, 0, 0, sr⟩ ∧ Rt T l ⟨3, b, c, 0⟩ ∧ Rt T L ⟨3, a, l, 0⟩

theorem Nms.more {T U : List T4} {k si sr L : Int} (h : Nms T k si sr L) (e : Ext T U) : Nms U k si sr L := by
  obtain ⟨a, b, c, l, h1, h2, h3, h4, h5⟩ := h
  exact ⟨a, b, c, l, h1.more e, h2.more e, h3.more e, h4.more e, h5.more e⟩

theorem Nms.inj {T : List T4} {k k' si sr L : Int} (h : Nms T k si sr L) (h' : Nms T k' si sr L) : k = k' := by
  obtain ⟨a, b, c, l, h1, h2, h3, h4, h5⟩ := h
  obtain ⟨a', b', c', l', h1', h2', h3', h4', h5'⟩ := h'
  have x := h5.one h5'
  simp only [T4.mk.injEq, true_and, and_true] at x
  obtain ⟨rfl, rfl⟩ := x
  have x := h1.one h1'
  simp only [T4.mk.injEq, true_and] at x
  exact x

theorem mkW3 (m : Mk) (k si sr : Int) : mkW m [k, si, sr] = mkL (mkPut (mkPut (mkPut m ⟨1, 0, 0, k⟩) ⟨1, 0, 0, si⟩) ⟨1, 0, 0, sr⟩) [mkAt m ⟨1, 0, 0, k⟩, mkAt (mkPut m ⟨1, 0, 0, k⟩) ⟨1, 0, 0, si⟩, mkAt (mkPut (mkPut m ⟨1, 0, 0, k⟩) ⟨1, 0, 0, si⟩) ⟨1, 0, 0, sr⟩] := rfl

/-- A key out of the seed. -/
def Ky (T : List T4) (k s si sr p : Int) : Prop := ∃ L, Nms T k si sr L ∧ Rt T p ⟨4, s, L, 0⟩

theorem Ky.more {T U : List T4} {k s si sr p : Int} (h : Ky T k s si sr p) (e : Ext T U) : Ky U k s si sr p := by
  obtain ⟨L, h1, h2⟩ := h
  exact ⟨L, h1.more e, h2.more e⟩

theorem kyW_made {m : Mk} {k s si sr : Int} (h : tfC m.l = 0) (hc : (kyW m k s si sr).1.c = 0) : m.c = 0 ∧ tfC (kyW m k s si sr).1.l = 0 ∧ Ext m.l (kyW m k s si sr).1.l ∧ Ky (kyW m k s si sr).1.l k s si sr (kyW m k s si sr).2 := by
  unfold kyW at *
  rw [mkW3] at *
  simp only [mkL, mk2] at *
  obtain ⟨m1, e1⟩ : ∃ P, mkPut m ⟨1, 0, 0, k⟩ = P := ⟨_, rfl⟩
  obtain ⟨v1, f1⟩ : ∃ P, mkAt m ⟨1, 0, 0, k⟩ = P := ⟨_, rfl⟩
  simp only [e1, f1] at hc ⊢
  obtain ⟨m2, e2⟩ : ∃ P, mkPut m1 ⟨1, 0, 0, si⟩ = P := ⟨_, rfl⟩
  obtain ⟨v2, f2⟩ : ∃ P, mkAt m1 ⟨1, 0, 0, si⟩ = P := ⟨_, rfl⟩
  simp only [e2, f2] at hc ⊢
  obtain ⟨m3, e3⟩ : ∃ P, mkPut m2 ⟨1, 0, 0, sr⟩ = P := ⟨_, rfl⟩
  obtain ⟨v3, f3⟩ : ∃ P, mkAt m2 ⟨1, 0, 0, sr⟩ = P := ⟨_, rfl⟩
  simp only [e3, f3] at hc ⊢
  obtain ⟨m4, e4⟩ : ∃ P, mkPut m3 ⟨3, v2, v3, 0⟩ = P := ⟨_, rfl⟩
  obtain ⟨v4, f4⟩ : ∃ P, mkAt m3 ⟨3, v2, v3, 0⟩ = P := ⟨_, rfl⟩
  simp only [e4, f4] at hc ⊢
  obtain ⟨m5, e5⟩ : ∃ P, mkPut m4 ⟨3, v1, v4, 0⟩ = P := ⟨_, rfl⟩
  obtain ⟨v5, f5⟩ : ∃ P, mkAt m4 ⟨3, v1, v4, 0⟩ = P := ⟨_, rfl⟩
  simp only [e5, f5] at hc ⊢
  obtain ⟨m6, e6⟩ : ∃ P, mkPut m5 ⟨4, s, v5, 0⟩ = P := ⟨_, rfl⟩
  obtain ⟨v6, f6⟩ : ∃ P, mkAt m5 ⟨4, s, v5, 0⟩ = P := ⟨_, rfl⟩
  simp only [e6, f6] at hc ⊢
  obtain ⟨c5, g6⟩ := mk_step e6 f6 hc
  obtain ⟨c4, g5⟩ := mk_step e5 f5 c5
  obtain ⟨c3, g4⟩ := mk_step e4 f4 c4
  obtain ⟨c2, g3⟩ := mk_step e3 f3 c3
  obtain ⟨c1, g2⟩ := mk_step e2 f2 c2
  obtain ⟨c0, g1⟩ := mk_step e1 f1 c1
  obtain ⟨t1, x1, r1⟩ := g1 h
  obtain ⟨t2, x2, r2⟩ := g2 t1
  obtain ⟨t3, x3, r3⟩ := g3 t2
  obtain ⟨t4, x4, r4⟩ := g4 t3
  obtain ⟨t5, x5, r5⟩ := g5 t4
  obtain ⟨t6, x6, r6⟩ := g6 t5
  have y5 := x6
  have y4 := x5.trans y5
  have y3 := x4.trans y4
  have y2 := x3.trans y3
  have y1 := x2.trans y2
  exact ⟨c0, t6, x1.trans y1, v5, ⟨v1, v2, v3, v4, r1.more y1, r2.more y2, r3.more y3, r4.more y4, r5.more y5⟩, r6⟩

theorem kyW_there {T : List T4} {k s si sr p : Int} (h : tfC T = 0) (r : Ky T k s si sr p) : kyW ⟨T, 0⟩ k s si sr = (⟨T, 0⟩, p) := by
  obtain ⟨L, ⟨a, b, c, l, h1, h2, h3, h4, h5⟩, h6⟩ := r
  simp only [kyW, mkW3, mkL, mk2, (mk_there h h1).1, (mk_there h h1).2, (mk_there h h2).1, (mk_there h h2).2, (mk_there h h3).1, (mk_there h h3).2, (mk_there h h4).1, (mk_there h h4).2, (mk_there h h5).1, (mk_there h h5).2, (mk_there h h6).1, (mk_there h h6).2]

/-- The seed. -/
def Seed (T : List T4) (ni nr x y s : Int) : Prop := ∃ n b, Rt T n ⟨3, ni, nr, 0⟩ ∧ Rt T b ⟨7, min x y, max x y, 0⟩ ∧ Rt T s ⟨4, n, b, 0⟩

theorem Seed.more {T U : List T4} {ni nr x y s : Int} (h : Seed T ni nr x y s) (e : Ext T U) : Seed U ni nr x y s := by
  obtain ⟨n, b, h1, h2, h3⟩ := h
  exact ⟨n, b, h1.more e, h2.more e, h3.more e⟩

theorem Seed.turn {T : List T4} {ni nr x y s : Int} (h : Seed T ni nr x y s) : Seed T ni nr y x s := by
  obtain ⟨n, b, h1, h2, h3⟩ := h
  rw [Int.min_comm, Int.max_comm] at h2
  exact ⟨n, b, h1, h2, h3⟩

theorem kyP_made {m : Mk} {ni nr x y : Int} (h : tfC m.l = 0) (hc : (kyP m ni nr x y).1.c = 0) : m.c = 0 ∧ tfC (kyP m ni nr x y).1.l = 0 ∧ Ext m.l (kyP m ni nr x y).1.l ∧ Seed (kyP m ni nr x y).1.l ni nr x y (kyP m ni nr x y).2 := by
  unfold kyP at *
  simp only [mk2] at *
  obtain ⟨m1, e1⟩ : ∃ P, mkPut m ⟨3, ni, nr, 0⟩ = P := ⟨_, rfl⟩
  obtain ⟨v1, f1⟩ : ∃ P, mkAt m ⟨3, ni, nr, 0⟩ = P := ⟨_, rfl⟩
  simp only [e1, f1] at hc ⊢
  obtain ⟨m2, e2⟩ : ∃ P, mkPut m1 ⟨7, min x y, max x y, 0⟩ = P := ⟨_, rfl⟩
  obtain ⟨v2, f2⟩ : ∃ P, mkAt m1 ⟨7, min x y, max x y, 0⟩ = P := ⟨_, rfl⟩
  simp only [e2, f2] at hc ⊢
  obtain ⟨m3, e3⟩ : ∃ P, mkPut m2 ⟨4, v1, v2, 0⟩ = P := ⟨_, rfl⟩
  obtain ⟨v3, f3⟩ : ∃ P, mkAt m2 ⟨4, v1, v2, 0⟩ = P := ⟨_, rfl⟩
  simp only [e3, f3] at hc ⊢
  obtain ⟨c2, g3⟩ := mk_step e3 f3 hc
  obtain ⟨c1, g2⟩ := mk_step e2 f2 c2
  obtain ⟨c0, g1⟩ := mk_step e1 f1 c1
  obtain ⟨t1, x1, r1⟩ := g1 h
  obtain ⟨t2, x2, r2⟩ := g2 t1
  obtain ⟨t3, x3, r3⟩ := g3 t2
  exact ⟨c0, t3, x1.trans (x2.trans x3), v1, v2, r1.more (x2.trans x3), r2.more x3, r3⟩

theorem kyP_there {T : List T4} {ni nr x y s : Int} (h : tfC T = 0) (r : Seed T ni nr x y s) : kyP ⟨T, 0⟩ ni nr x y = (⟨T, 0⟩, s) := by
  obtain ⟨n, b, h1, h2, h3⟩ := r
  simp only [kyP, mk2, (mk_there h h1).1, (mk_there h h1).2, (mk_there h h2).1, (mk_there h h2).2, (mk_there h h3).1, (mk_there h h3).2]

/-- All keys. -/
def Kys (T : List T4) (ni nr x y si sr : Int) (k : K4) : Prop := Seed T ni nr x y k.s ∧ Ky T 1 k.s si sr k.d ∧ Ky T 2 k.s si sr k.o ∧ Ky T 3 k.s si sr k.b

theorem kyR_eq (m : Mk) (ni nr x y si sr : Int) : kyR m ni nr x y si sr = ((kyW (kyW (kyW (kyP m ni nr x y).1 1 (kyP m ni nr x y).2 si sr).1 2 (kyP m ni nr x y).2 si sr).1 3 (kyP m ni nr x y).2 si sr).1, ⟨(kyP m ni nr x y).2, (kyW (kyP m ni nr x y).1 1 (kyP m ni nr x y).2 si sr).2, (kyW (kyW (kyP m ni nr x y).1 1 (kyP m ni nr x y).2 si sr).1 2 (kyP m ni nr x y).2 si sr).2, (kyW (kyW (kyW (kyP m ni nr x y).1 1 (kyP m ni nr x y).2 si sr).1 2 (kyP m ni nr x y).2 si sr).1 3 (kyP m ni nr x y).2 si sr).2⟩) := rfl

theorem kyW_mono {m : Mk} {k s si sr : Int} (h : (kyW m k s si sr).1.c = 0) : m.c = 0 := mkW_mono (mk2_mono h)

theorem kyR_made {xs : List T4} {ni nr x y si sr : Int} (h : tfC xs = 0) (hc : (kyR ⟨xs, 0⟩ ni nr x y si sr).1.c = 0) : tfC (kyR ⟨xs, 0⟩ ni nr x y si sr).1.l = 0 ∧ Ext xs (kyR ⟨xs, 0⟩ ni nr x y si sr).1.l ∧ Kys (kyR ⟨xs, 0⟩ ni nr x y si sr).1.l ni nr x y si sr (kyR ⟨xs, 0⟩ ni nr x y si sr).2 := by
  rw [kyR_eq] at *
  simp only at *
  obtain ⟨A, eA⟩ : ∃ A, kyP ⟨xs, 0⟩ ni nr x y = A := ⟨_, rfl⟩
  have gA := kyP_made (m := ⟨xs, 0⟩) (ni := ni) (nr := nr) (x := x) (y := y) h
  rw [eA] at gA hc ⊢
  obtain ⟨B, eB⟩ : ∃ B, kyW A.1 1 A.2 si sr = B := ⟨_, rfl⟩
  have gB := fun h => kyW_made (m := A.1) (k := 1) (s := A.2) (si := si) (sr := sr) h
  rw [eB] at gB hc ⊢
  obtain ⟨C, eC⟩ : ∃ C, kyW B.1 2 A.2 si sr = C := ⟨_, rfl⟩
  have gC := fun h => kyW_made (m := B.1) (k := 2) (s := A.2) (si := si) (sr := sr) h
  rw [eC] at gC hc ⊢
  obtain ⟨D, eD⟩ : ∃ D, kyW C.1 3 A.2 si sr = D := ⟨_, rfl⟩
  have gD := fun h => kyW_made (m := C.1) (k := 3) (s := A.2) (si := si) (sr := sr) h
  have cC : C.1.c = 0 := kyW_mono (k := 3) (s := A.2) (si := si) (sr := sr) hc
  rw [eD] at gD hc ⊢
  have cB : B.1.c = 0 := kyW_mono (k := 2) (s := A.2) (si := si) (sr := sr) (by rw [eC]; exact cC)
  have cA : A.1.c = 0 := kyW_mono (k := 1) (s := A.2) (si := si) (sr := sr) (by rw [eB]; exact cB)
  obtain ⟨_, tA, xA, rA⟩ := gA cA
  obtain ⟨_, tB, xB, rB⟩ := gB tA cB
  obtain ⟨_, tC, xC, rC⟩ := gC tB cC
  obtain ⟨_, tD, xD, rD⟩ := gD tC hc
  exact ⟨tD, xA.trans (xB.trans (xC.trans xD)), rA.more (xB.trans (xC.trans xD)), rB.more (xC.trans xD), rC.more xD, rD⟩

theorem kyR_there {T : List T4} {ni nr x y si sr : Int} {k : K4} (h : tfC T = 0) (r : Kys T ni nr x y si sr k) : kyR ⟨T, 0⟩ ni nr x y si sr = (⟨T, 0⟩, k) := by
  obtain ⟨h1, h2, h3, h4⟩ := r
  simp only [kyR_eq, kyP_there h h1, kyW_there h h2, kyW_there h h3, kyW_there h h4]

/-- What is made of two terms stands behind the first. -/
theorem rt_ahead {T : List T4} (h : tfC T = 0) {o a b p : Int} (ho : o = 4 ∨ o = 3 ∨ o = 6) (r : Rt T p ⟨o, a, b, 0⟩) : 0 ≤ a ∧ a < p := by
  obtain ⟨h0, h1, h2⟩ := r
  have h5 : T.getD p.toNat zTerm = ⟨o, a, b, 0⟩ := h2
  have h6 := tfC_ahead h p.toNat (by omega)
  rw [h5] at h6
  have hk : 0 < kids o := by
    rcases ho with rfl | rfl | rfl
    · have : kids 4 = 2 := by rcases kids_ways 4 with h | h | h | h | h | h <;> omega
      omega
    · have : kids 3 = 2 := by rcases kids_ways 3 with h | h | h | h | h | h <;> omega
      omega
    · have : kids 6 = 1 := by rcases kids_ways 6 with h | h | h | h | h | h <;> omega
      omega
  have := h6.1 hk
  simp only at this
  omega

theorem key_not_seed {T : List T4} (h : tfC T = 0) {k s si sr p : Int} (r : Ky T k s si sr p) : s ≠ p := by
  obtain ⟨L, _, h2⟩ := r
  have := (rt_ahead h (.inl rfl) h2).2
  omega

theorem key_apart {T : List T4} {k k' s si sr p : Int} (r : Ky T k s si sr p) (r' : Ky T k' s si sr p) : k = k' := by
  obtain ⟨L, h1, h2⟩ := r
  obtain ⟨L', h1', h2'⟩ := r'
  have x := h2.one h2'
  simp only [T4.mk.injEq, true_and, and_true] at x
  subst x
  exact h1.inj h1'

theorem mkk_made {xs : List T4} {ni nr own half si sr : Int} (hc : (mkR xs ni nr own half si sr).c = 0) : aqC xs [ni, nr, own, half] = 0 ∧ btw si 0 9999 = true ∧ btw sr 0 9999 = true ∧ (tmAt xs own).o = 2 ∧ (tmAt xs half).o = 6 ∧ tfC (mkR xs ni nr own half si sr).l = 0 ∧ Ext xs (mkR xs ni nr own half si sr).l ∧ Kys (mkR xs ni nr own half si sr).l ni nr own (tmAt xs half).a si sr (mkR xs ni nr own half si sr).k := by
  rcases mk_ways6 xs ni nr own half si sr with ⟨h1, e⟩ | ⟨_, _, e⟩ | ⟨_, _, _, e⟩ | ⟨_, _, _, _, e⟩ | ⟨_, _, _, _, _, e⟩ | ⟨_, _, _, _, _, h1, e⟩ | ⟨h1, h2, h3, h4, h5, h6, e⟩
  · rw [e] at hc; exact absurd hc h1
  · rw [e] at hc; exact absurd hc (by decide)
  · rw [e] at hc; exact absurd hc (by decide)
  · rw [e] at hc; exact absurd hc (by decide)
  · rw [e] at hc; exact absurd hc (by decide)
  · rw [e] at hc; exact absurd hc h1
  · rw [e]
    exact ⟨h1, h2, h3, h4, h5, kyR_made (aq_table h1) h6⟩

theorem mkk_there {T : List T4} {ni nr own half si sr y : Int} {k : K4} (h : aqC T [ni, nr, own, half] = 0) (hi : btw si 0 9999 = true) (hr : btw sr 0 9999 = true) (ho : (tmAt T own).o = 2) (hh : (tmAt T half).o = 6) (hy : (tmAt T half).a = y) (r : Kys T ni nr own y si sr k) : mkR T ni nr own half si sr = ⟨0, k, T⟩ := by
  subst hy
  have e := kyR_there (aq_table h) r
  rcases mk_ways6 T ni nr own half si sr with ⟨h1, _⟩ | ⟨_, h1, _⟩ | ⟨_, _, h1, _⟩ | ⟨_, _, _, h1, _⟩ | ⟨_, _, _, _, h1, _⟩ | ⟨_, _, _, _, _, h1, _⟩ | ⟨_, _, _, _, _, _, e2⟩
  · exact absurd h h1
  · rw [hi] at h1; cases h1
  · rw [hr] at h1; cases h1
  · exact absurd ho h1
  · exact absurd hh h1
  · rw [e] at h1; exact absurd rfl h1
  · rw [e2, e]

/-- FnKeys: the other side comes to the same, and puts nothing. -/
theorem keys_same {xs : List T4} {ni nr own half si sr : Int} (hc : (mkR xs ni nr own half si sr).c = 0) (hp : (put (mkR xs ni nr own half si sr).l ⟨6, own, 0, 0⟩).c = 0) :
    mkR (put (mkR xs ni nr own half si sr).l ⟨6, own, 0, 0⟩).l ni nr (tmAt xs half).a (put (mkR xs ni nr own half si sr).l ⟨6, own, 0, 0⟩).k si sr = ⟨0, (mkR xs ni nr own half si sr).k, (put (mkR xs ni nr own half si sr).l ⟨6, own, 0, 0⟩).l⟩ := by
  obtain ⟨h1, h2, h3, h4, h5, h6, h7, s1, s2, s3, s4⟩ := mkk_made hc
  generalize mkR xs ni nr own half si sr = R at *
  obtain ⟨p1, p2, p3, p4, p5⟩ := put_right h6 hp
  generalize put R.l ⟨6, own, 0, 0⟩ = P at *
  have p2' : Ext R.l P.l := p2
  have hpl := aq_places h1
  have hhf := hpl half (by simp)
  obtain ⟨k, rfl⟩ : ∃ k : Nat, half = (k : Int) := ⟨half.toNat, by omega⟩
  have hz := ((tfC_zero (aq_table h1)).2 k (by omega)).1
  have et : xs.getD k zTerm = tmAt xs (k : Int) := by unfold tmAt; rw [Int.toNat_natCast]
  rw [et] at hz
  have hk6 : kids 6 = 1 := by rcases kids_ways 6 with h | h | h | h | h | h <;> omega
  obtain ⟨_, _, q1, _, _, _, q2⟩ := tm_zero hz
  have q1 := q1 (by rw [h5]; omega)
  have hlk : (xs.take k).length = k := by rw [List.length_take]; omega
  rw [hlk] at q1
  have q2 := (tmSec_false (q2 (ofSec_iff.2 (.inl h5)))).1
  rw [tmAt_take _ _ _ q1.2.1 q1.2.2] at q2
  have hX := h7.trans p2'
  have hlen := hX.len
  have hle := p2'.len
  have hB : (tmAt P.l (tmAt xs (k : Int)).a).o = 2 := by
    have r : Rt xs (tmAt xs (k : Int)).a (tmAt xs (tmAt xs (k : Int)).a) := ⟨q1.2.1, by omega, rfl⟩
    rw [(r.more hX).2.2]; exact q2
  have eP : tmAt P.l P.k = ⟨6, own, 0, 0⟩ := p5
  refine mkk_there (y := own) ?_ h2 h3 hB (by rw [eP]) (by rw [eP]) ⟨(s1.more p2').turn, s2.more p2', s3.more p2', s4.more p2'⟩
  unfold aqC
  rw [if_pos p1, if_pos]
  rw [List.all_eq_true]
  intro z hz
  rw [btw_iff]
  simp only [List.mem_cons, List.not_mem_nil, or_false] at hz
  have i1 := hpl ni (by simp)
  have i2 := hpl nr (by simp)
  rcases hz with rfl | rfl | rfl | rfl <;> omega

/-- FnKeys: the keys are not one another. -/
theorem keys_apart {xs : List T4} {ni nr own half si sr : Int} (hc : (mkR xs ni nr own half si sr).c = 0) : tfC (mkR xs ni nr own half si sr).l = 0 ∧ (mkR xs ni nr own half si sr).k.s ≠ (mkR xs ni nr own half si sr).k.d ∧ (mkR xs ni nr own half si sr).k.o ≠ (mkR xs ni nr own half si sr).k.b := by
  obtain ⟨h1, h2, h3, h4, h5, h6, h7, s1, s2, s3, s4⟩ := mkk_made hc
  generalize mkR xs ni nr own half si sr = R at *
  refine ⟨h6, key_not_seed h6 s2, fun e => ?_⟩
  rw [e] at s3
  have := key_apart s3 s4
  omega

/-- FnKeys: whoever does not follow a key's seed opened the key or doesn't follow it. -/
theorem keys_closed {T : List T4} {kn : List Int} {k s si sr p : Int} (h : tfC T = 0) (hk : knC T kn = 0) (r : Ky T k s si sr p) : scB T kn p = true ∨ dvB T kn s = true ∨ inL (opL T kn) p = true := by
  obtain ⟨L, _, r2⟩ := r
  have ha := rt_ahead h (.inl rfl) r2
  obtain ⟨r0, r1, r3⟩ := r2
  rcases kn_ways T kn with ⟨h1, _⟩ | ⟨_, e1, _, e2⟩
  · exact absurd hk h1
  · obtain ⟨_, _, e4⟩ := e2 p
    obtain ⟨_, e3, _⟩ := e2 s
    rw [e1, e3, e4]
    have hb : btw p 0 ((T.length : Int) - 1) = true := by rw [btw_iff]; omega
    rw [hb, Bool.true_and]
    cases hf : flg (dvF T kn) p
    · exact .inl rfl
    · obtain ⟨j, rfl⟩ : ∃ j : Nat, p = (j : Int) := ⟨p.toNat, by omega⟩
      rw [flg_nat] at hf
      unfold dvF at hf ⊢
      have hx : T.getD j zTerm = ⟨4, s, L, 0⟩ := by have := r3; unfold tmAt at this; rwa [Int.toNat_natCast] at this
      have hc : can T (isIn (openL T kn)) j = true := hf
      rw [can_iff (tfC_ahead h) j (by omega) hx] at hc
      simp only at hc
      rcases hc with hc | hc | ⟨_, hc, _⟩ | ⟨hc, _⟩ | ⟨hc, _⟩
      · exact .inr (.inr (by unfold inL; rw [List.any_eq_true]; exact ⟨_, isIn_iff.1 hc, by simp⟩))
      · omega
      · refine .inr (.inl ?_)
        rw [flg_at ha.1]
        exact hc
      · omega
      · omega

end Go.Proofs.Ythkmoabkeblbjaa
