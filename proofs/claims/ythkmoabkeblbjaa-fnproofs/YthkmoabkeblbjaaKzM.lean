/- What stands in a table behind a proof or keys were made: plain sums. -/
import Derived.Test.YthkmoabkeblbjaaKzA
import Derived.Test.YthkmoabkeblbjaaKyL
import Derived.Test.YthkmoabkeblbjaaTpD
import Derived.Test.YthkmoabkeblbjaaMg
namespace Go.Proofs.Ythkmoabkeblbjaa
open Go.RowKit

/-- A term stands at a place. -/
def Rt (T : List T4) (p : Int) (t : T4) : Prop := 0 ≤ p ∧ p < T.length ∧ tmAt T p = t

/-- A table behind which terms were put. -/
def Ext (T U : List T4) : Prop := ∃ ys, U = T ++ ys

theorem Ext.refl (T : List T4) : Ext T T := ⟨[], by simp⟩

theorem Ext.trans {A B C : List T4} (h : Ext A B) (k : Ext B C) : Ext A C := by
  obtain ⟨x, rfl⟩ := h
  obtain ⟨y, rfl⟩ := k
  exact ⟨x ++ y, by rw [List.append_assoc]⟩

theorem Ext.len {A B : List T4} (h : Ext A B) : A.length ≤ B.length := by
  obtain ⟨x, rfl⟩ := h
  rw [List.length_append]; omega

theorem Rt.more {T U : List T4} {p : Int} {t : T4} (h : Rt T p t) (k : Ext T U) : Rt U p t := by
  obtain ⟨ys, rfl⟩ := k
  obtain ⟨h0, h1, h2⟩ := h
  exact ⟨h0, by rw [List.length_append]; omega, by rw [tmAt_app T ys p h0 h1]; exact h2⟩

theorem Rt.one {T : List T4} {p : Int} {t u : T4} (h : Rt T p t) (k : Rt T p u) : t = u := h.2.2.symm.trans k.2.2

theorem put_there {T : List T4} (h : tfC T = 0) {t : T4} {p : Int} (r : Rt T p t) : put T t = ⟨0, p, T⟩ := by
  obtain ⟨h0, h1, h2⟩ := r
  have hk : p.toNat < T.length := by omega
  have h5 : T.getD p.toNat zTerm = t := h2
  have hz := (tfC_zero h).2 p.toNat hk
  rw [h5] at hz
  have hm : t ∈ T := by rw [← h5]; exact getDTerm_mem hk
  have hi := idx_once (fun k hk => ((tfC_zero h).2 k hk).2) hk
  rw [h5] at hi
  rcases put_ways T t with ⟨e, _⟩ | ⟨_, _, e⟩ | ⟨_, e, _⟩ | ⟨_, e, _⟩
  · exact absurd (tmC_more (Nat.le_of_lt hk) hz.1) e
  · rw [e, hi]
    have : ((p.toNat : Nat) : Int) = p := by omega
    rw [this]
  · exact absurd hm e
  · exact absurd hm e

theorem mk_there {T : List T4} (h : tfC T = 0) {t : T4} {p : Int} (r : Rt T p t) : mkPut ⟨T, 0⟩ t = ⟨T, 0⟩ ∧ mkAt ⟨T, 0⟩ t = p := by
  have e := put_there h r
  unfold mkPut mkAt
  simp only [e, if_true, and_self]

/-- One step of a run. -/
theorem mk_step {m m' : Mk} {t : T4} {v : Int} (e : mkPut m t = m') (f : mkAt m t = v) (hc : m'.c = 0) : m.c = 0 ∧ (tfC m.l = 0 → tfC m'.l = 0 ∧ Ext m.l m'.l ∧ Rt m'.l v t) := by
  have h0 : m.c = 0 := mkPut_mono (t := t) (by rw [e]; exact hc)
  refine ⟨h0, fun h => ?_⟩
  have h1 : (put m.l t).c = 0 := by rw [← mkPut_c h0, e]; exact hc
  obtain ⟨a1, a2, a3, a4, a5⟩ := put_right h h1
  have el : m'.l = (put m.l t).l := by rw [← e]; exact mkPut_l h0 h1
  rw [← f, mkAt_good h0, el]
  exact ⟨a1, a2, a3, a4, a5⟩

/-- What a proof is made of. -/
def Prf (T : List T4) (shared first nonce key id P : Int) : Prop :=
  ∃ n9 p ni q r l, Rt T n9 ⟨1, 0, 0, 9⟩ ∧ Rt T p ⟨4, shared, n9, 0⟩ ∧ Rt T ni ⟨1, 0, 0, id⟩ ∧ Rt T q ⟨4, key, ni, 0⟩ ∧ Rt T r ⟨3, nonce, q, 0⟩ ∧ Rt T l ⟨3, first, r, 0⟩ ∧ Rt T P ⟨4, p, l, 0⟩

theorem Prf.more {T U : List T4} {shared first nonce key id P : Int} (h : Prf T shared first nonce key id P) (k : Ext T U) : Prf U shared first nonce key id P := by
  obtain ⟨n9, p, ni, q, r, l, a, b, c, d, e, f, g⟩ := h
  exact ⟨n9, p, ni, q, r, l, a.more k, b.more k, c.more k, d.more k, e.more k, f.more k, g.more k⟩

theorem Prf.inj {T : List T4} {shared first nonce key id first' nonce' id' P : Int} (h : Prf T shared first nonce key id P) (h' : Prf T shared first' nonce' key id' P) : first = first' ∧ nonce = nonce' ∧ id = id' := by
  obtain ⟨n9, p, ni, q, r, l, a, b, c, d, e, f, g⟩ := h
  obtain ⟨n9', p', ni', q', r', l', a', b', c', d', e', f', g'⟩ := h'
  have x := g.one g'
  simp only [T4.mk.injEq, true_and, and_true] at x
  obtain ⟨rfl, rfl⟩ := x
  have x := f.one f'
  simp only [T4.mk.injEq, true_and, and_true] at x
  obtain ⟨rfl, rfl⟩ := x
  have x := e.one e'
  simp only [T4.mk.injEq, true_and, and_true] at x
  obtain ⟨rfl, rfl⟩ := x
  have x := d.one d'
  simp only [T4.mk.injEq, true_and, and_true] at x
  subst x
  have x := c.one c'
  simp only [T4.mk.injEq, true_and] at x
  exact ⟨rfl, rfl, x⟩

theorem prP_made {xs : List T4} {shared first nonce key id : Int} (h : tfC xs = 0) (hc : (prP ⟨xs, 0⟩ shared first nonce key id).1.c = 0) :
    tfC (prP ⟨xs, 0⟩ shared first nonce key id).1.l = 0 ∧ Ext xs (prP ⟨xs, 0⟩ shared first nonce key id).1.l ∧ Prf (prP ⟨xs, 0⟩ shared first nonce key id).1.l shared first nonce key id (prP ⟨xs, 0⟩ shared first nonce key id).2 := by
  unfold prP prfL prB prA at *
  simp only [mkL, mk2] at *
  obtain ⟨m1, e1⟩ : ∃ P, mkPut ⟨xs, 0⟩ ⟨1, 0, 0, 9⟩ = P := ⟨_, rfl⟩
  obtain ⟨v1, f1⟩ : ∃ P, mkAt ⟨xs, 0⟩ ⟨1, 0, 0, 9⟩ = P := ⟨_, rfl⟩
  simp only [e1, f1] at hc ⊢
  obtain ⟨m2, e2⟩ : ∃ P, mkPut m1 ⟨4, shared, v1, 0⟩ = P := ⟨_, rfl⟩
  obtain ⟨v2, f2⟩ : ∃ P, mkAt m1 ⟨4, shared, v1, 0⟩ = P := ⟨_, rfl⟩
  simp only [e2, f2] at hc ⊢
  obtain ⟨m3, e3⟩ : ∃ P, mkPut m2 ⟨1, 0, 0, id⟩ = P := ⟨_, rfl⟩
  obtain ⟨v3, f3⟩ : ∃ P, mkAt m2 ⟨1, 0, 0, id⟩ = P := ⟨_, rfl⟩
  simp only [e3, f3] at hc ⊢
  obtain ⟨m4, e4⟩ : ∃ P, mkPut m3 ⟨4, key, v3, 0⟩ = P := ⟨_, rfl⟩
  obtain ⟨v4, f4⟩ : ∃ P, mkAt m3 ⟨4, key, v3, 0⟩ = P := ⟨_, rfl⟩
  simp only [e4, f4] at hc ⊢
  obtain ⟨m5, e5⟩ : ∃ P, mkPut m4 ⟨3, nonce, v4, 0⟩ = P := ⟨_, rfl⟩
  obtain ⟨v5, f5⟩ : ∃ P, mkAt m4 ⟨3, nonce, v4, 0⟩ = P := ⟨_, rfl⟩
  simp only [e5, f5] at hc ⊢
  obtain ⟨m6, e6⟩ : ∃ P, mkPut m5 ⟨3, first, v5, 0⟩ = P := ⟨_, rfl⟩
  obtain ⟨v6, f6⟩ : ∃ P, mkAt m5 ⟨3, first, v5, 0⟩ = P := ⟨_, rfl⟩
  simp only [e6, f6] at hc ⊢
  obtain ⟨m7, e7⟩ : ∃ P, mkPut m6 ⟨4, v2, v6, 0⟩ = P := ⟨_, rfl⟩
  obtain ⟨v7, f7⟩ : ∃ P, mkAt m6 ⟨4, v2, v6, 0⟩ = P := ⟨_, rfl⟩
  simp only [e7, f7] at hc ⊢
  obtain ⟨c6, g7⟩ := mk_step e7 f7 hc
  obtain ⟨c5, g6⟩ := mk_step e6 f6 c6
  obtain ⟨c4, g5⟩ := mk_step e5 f5 c5
  obtain ⟨c3, g4⟩ := mk_step e4 f4 c4
  obtain ⟨c2, g3⟩ := mk_step e3 f3 c3
  obtain ⟨c1, g2⟩ := mk_step e2 f2 c2
  obtain ⟨_, g1⟩ := mk_step e1 f1 c1
  obtain ⟨t1, x1, r1⟩ := g1 h
  obtain ⟨t2, x2, r2⟩ := g2 t1
  obtain ⟨t3, x3, r3⟩ := g3 t2
  obtain ⟨t4, x4, r4⟩ := g4 t3
  obtain ⟨t5, x5, r5⟩ := g5 t4
  obtain ⟨t6, x6, r6⟩ := g6 t5
  obtain ⟨t7, x7, r7⟩ := g7 t6
  have y6 := x7
  have y5 := x6.trans y6
  have y4 := x5.trans y5
  have y3 := x4.trans y4
  have y2 := x3.trans y3
  have y1 := x2.trans y2
  exact ⟨t7, x1.trans y1, v1, v2, v3, v4, v5, v6, r1.more y1, r2.more y2, r3.more y3, r4.more y4, r5.more y5, r6.more y6, r7⟩

theorem prP_there {T : List T4} {shared first nonce key id P : Int} (h : tfC T = 0) (k : Prf T shared first nonce key id P) : prP ⟨T, 0⟩ shared first nonce key id = (⟨T, 0⟩, P) := by
  obtain ⟨n9, p, ni, q, r, l, a, b, c, d, e, f, g⟩ := k
  simp only [prP, prfL, prB, prA, mkL, mk2, (mk_there h a).1, (mk_there h a).2, (mk_there h b).1, (mk_there h b).2, (mk_there h c).1, (mk_there h c).2, (mk_there h d).1, (mk_there h d).2, (mk_there h e).1, (mk_there h e).2, (mk_there h f).1, (mk_there h f).2, (mk_there h g).1, (mk_there h g).2]

/-- What is asked of a table is asked of a longer one. -/
theorem aq_more {xs T : List T4} {ps : List Int} (h : aqC xs ps = 0) (ht : tfC T = 0) (k : Ext xs T) : aqC T ps = 0 := by
  have hp := aq_places h
  have hl := k.len
  unfold aqC
  rw [if_pos ht, if_pos]
  rw [List.all_eq_true]
  intro z hz
  rw [btw_iff]
  have := hp z hz
  omega

theorem mp_made {xs : List T4} {shared first nonce key id : Int} (hc : (mpR xs shared first nonce key id).c = 0) : aqC xs [shared, first, nonce, key] = 0 ∧ btw id 0 9999 = true ∧ tfC (mpR xs shared first nonce key id).l = 0 ∧ Ext xs (mpR xs shared first nonce key id).l ∧ Prf (mpR xs shared first nonce key id).l shared first nonce key id (mpR xs shared first nonce key id).k := by
  rcases mp_ways xs shared first nonce key id with ⟨h1, e⟩ | ⟨_, _, e⟩ | ⟨_, _, h1, e⟩ | ⟨h1, h2, h3, e⟩
  · rw [e] at hc; exact absurd hc h1
  · rw [e] at hc; exact absurd hc (by decide)
  · rw [e] at hc; exact absurd hc h1
  · rw [e]
    exact ⟨h1, h2, prP_made (aq_table h1) h3⟩

theorem mp_there {T : List T4} {shared first nonce key id P : Int} (h : aqC T [shared, first, nonce, key] = 0) (hi : btw id 0 9999 = true) (k : Prf T shared first nonce key id P) : mpR T shared first nonce key id = ⟨0, P, T⟩ := by
  have e := prP_there (aq_table h) k
  rcases mp_ways T shared first nonce key id with ⟨h1, _⟩ | ⟨_, h1, _⟩ | ⟨_, _, h1, _⟩ | ⟨_, _, _, e2⟩
  · exact absurd h h1
  · rw [hi] at h1; cases h1
  · rw [e] at h1; exact absurd rfl h1
  · rw [e2, e]

/-- FnProofs: the same once more. -/
theorem proofs_again {xs : List T4} {shared first nonce key id : Int} (hc : (mpR xs shared first nonce key id).c = 0) : mpR (mpR xs shared first nonce key id).l shared first nonce key id = ⟨0, (mpR xs shared first nonce key id).k, (mpR xs shared first nonce key id).l⟩ := by
  obtain ⟨h1, h2, h3, h4, h5⟩ := mp_made hc
  exact mp_there (aq_more h1 h3 h4) h2 h5

/-- FnProofs: another number. -/
theorem proofs_other {xs : List T4} {shared first nonce key id id' : Int} (hc : (mpR xs shared first nonce key id).c = 0) (hc' : (mpR (mpR xs shared first nonce key id).l shared first nonce key id').c = 0) : (mpR (mpR xs shared first nonce key id).l shared first nonce key id').k = (mpR xs shared first nonce key id).k ↔ id' = id := by
  obtain ⟨h1, h2, h3, h4, h5⟩ := mp_made hc
  obtain ⟨_, _, g3, g4, g5⟩ := mp_made hc'
  constructor
  · intro e
    rw [e] at g5
    exact (g5.inj (h5.more g4)).2.2
  · rintro rfl
    rw [proofs_again hc]

/-- FnProofs: nonce and message the other way round. -/
theorem proofs_turned {xs : List T4} {shared first nonce key id : Int} (hc : (mpR xs shared first nonce key id).c = 0) (hc' : (mpR (mpR xs shared first nonce key id).l shared nonce first key id).c = 0) : (mpR (mpR xs shared first nonce key id).l shared nonce first key id).k = (mpR xs shared first nonce key id).k ↔ first = nonce := by
  obtain ⟨h1, h2, h3, h4, h5⟩ := mp_made hc
  obtain ⟨_, _, g3, g4, g5⟩ := mp_made hc'
  constructor
  · intro e
    rw [e] at g5
    exact (g5.inj (h5.more g4)).2.1
  · rintro rfl
    rw [proofs_again hc]

end Go.Proofs.Ythkmoabkeblbjaa
