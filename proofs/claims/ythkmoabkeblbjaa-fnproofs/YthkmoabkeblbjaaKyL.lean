/- A list put as pairs is split into what it was (the numbers alone). -/
import Derived.Test.YthkmoabkeblbjaaKyK
import Derived.Test.YthkmoabkeblbjaaTmX
namespace Go.Proofs.Ythkmoabkeblbjaa
open Go.RowKit

theorem tmAt_nat {xs : List T4} (k : Nat) : tmAt xs (k : Int) = xs.getD k zTerm := by unfold tmAt; rw [Int.toNat_natCast]

theorem sp_parts {xs : List T4} (h : tfC xs = 0) {p : Int} (h0 : 0 ≤ p) (h1 : p < xs.length) (h3 : (tmAt xs p).o = 3) : (0 ≤ (tmAt xs p).a ∧ (tmAt xs p).a < p) ∧ 0 ≤ (tmAt xs p).b ∧ (tmAt xs p).b < p := by
  obtain ⟨k, rfl⟩ : ∃ k : Nat, p = (k : Int) := ⟨p.toNat, by omega⟩
  rw [tmAt_nat] at h3 ⊢
  obtain ⟨t, ht⟩ : ∃ t, xs.getD k zTerm = t := ⟨_, rfl⟩
  rw [ht] at h3 ⊢
  obtain ⟨o, a, b, n⟩ := t
  simp only at h3
  subst h3
  exact sp_pair h k (by omega) ht

theorem spT_app {xs : List T4} (h : tfC xs = 0) (ys : List T4) : ∀ (f : Nat) (p : Int), 0 ≤ p → p < xs.length → spT (xs ++ ys) f p = spT xs f p := by
  intro f
  induction f with
  | zero => intro p _ _; rfl
  | succ f ih =>
    intro p h0 h1
    rw [spT, spT, tmAt_app xs ys p h0 h1]
    by_cases h3 : (tmAt xs p).o = 3
    · have hp := (sp_parts h h0 h1 h3).2
      rw [if_pos h3, if_pos h3, ih _ hp.1 (by omega)]
    · rw [if_neg h3, if_neg h3]

/-- A list that was put is split into what it was. -/
theorem plP_split {xs : List T4} (h : tfC xs = 0) : ∀ zs : List Int, zs ≠ [] → (∀ z ∈ zs, 0 ≤ z ∧ z < xs.length) → (plP xs zs).c = 0 →
    tfC (plP xs zs).l = 0 ∧ (∃ ys, (plP xs zs).l = xs ++ ys) ∧ 0 ≤ (plP xs zs).k ∧ (plP xs zs).k < (plP xs zs).l.length ∧ spT (plP xs zs).l (zs.length - 1) (plP xs zs).k = some zs
  | [], h1, _, _ => absurd rfl h1
  | [x], _, hz, _ => by
    have := hz x (by simp)
    exact ⟨h, ⟨[], by simp [plP]⟩, this.1, this.2, rfl⟩
  | x :: y :: r, _, hz, hc => by
    rw [plP_two] at hc ⊢
    by_cases h1 : (plP xs (y :: r)).c = 0
    · rw [if_pos h1] at hc ⊢
      obtain ⟨t1, ⟨ys, e1⟩, k0, k1, s1⟩ := plP_split h (y :: r) (by simp) (fun z hz' => hz z (by simp only [List.mem_cons] at hz' ⊢; exact .inr hz')) h1
      generalize plP xs (y :: r) = P at *
      obtain ⟨t2, ⟨us, e2⟩, m0, m1, a1⟩ := put_right t1 hc
      generalize put P.l ⟨3, x, P.k, 0⟩ = R at *
      refine ⟨t2, ⟨ys ++ us, by rw [e2, e1, List.append_assoc]⟩, m0, m1, ?_⟩
      have ea : tmAt R.l R.k = ⟨3, x, P.k, 0⟩ := a1
      show spT R.l (r.length + 1) R.k = _
      rw [spT, ea, if_pos rfl]
      have es : spT R.l r.length P.k = some (y :: r) := by
        rw [e2, spT_app t1 us _ _ k0 k1]
        exact s1
      simp only [es, Option.map_some]
    · rw [if_neg h1] at hc
      exact absurd hc h1

/-- What no names is put as: the name 0. -/
theorem plP_none {xs : List T4} (h : tfC xs = 0) (hc : (plP xs []).c = 0) : tfC (plP xs []).l = 0 ∧ 0 ≤ (plP xs []).k ∧ (plP xs []).k < (plP xs []).l.length ∧ tmAt (plP xs []).l (plP xs []).k = ⟨1, 0, 0, 0⟩ := by
  obtain ⟨t2, _, m0, m1, a1⟩ := put_right (t := ⟨1, 0, 0, 0⟩) h hc
  exact ⟨t2, m0, m1, a1⟩

/-- A place of a right table is asked rightly. -/
theorem aq_one {xs : List T4} (h : tfC xs = 0) {p : Int} (h0 : 0 ≤ p) (h1 : p < xs.length) : aqC xs [p] = 0 := by
  unfold aqC
  rw [if_pos h, if_pos]
  rw [List.all_cons, List.all_nil, Bool.and_true, btw_iff]
  omega

/-- FnLists: no name. -/
theorem lists_none {xs : List T4} (h : tfC xs = 0) (hc : (plP xs []).c = 0) : naR (plP xs []).l (plP xs []).k = (0, 0) := by
  obtain ⟨t, k0, k1, e⟩ := plP_none h hc
  rcases naR_ways (plP xs []).l (plP xs []).k with ⟨h1, _⟩ | ⟨_, h1, _⟩ | ⟨_, _, e2⟩
  · exact absurd (aq_one t k0 k1) h1
  · rw [e] at h1; exact absurd rfl h1
  · rw [e2, e]

/-- FnLists: some names (20 at most). -/
theorem lists_some {xs : List T4} (h : tfC xs = 0) {zs : List Int} (hz : zs ≠ []) (hl : zs.length ≤ 20) (ha : ∀ z ∈ zs, 0 ≤ z ∧ z < xs.length) (hc : (plP xs zs).c = 0) : slR (plP xs zs).l (plP xs zs).k zs.length = (0, zs) ∧ tfC (plP xs zs).l = 0 := by
  obtain ⟨t, _, k0, k1, s⟩ := plP_split h zs hz ha hc
  have hp : 1 ≤ zs.length := by cases zs with | nil => exact absurd rfl hz | cons _ _ => simp
  have hb : btw (zs.length : Int) 1 20 = true := by rw [btw_iff]; omega
  have hn : ((zs.length : Int) - 1).toNat = zs.length - 1 := by omega
  refine ⟨?_, t⟩
  rcases sl_ways (plP xs zs).l (plP xs zs).k zs.length with ⟨h1, _⟩ | ⟨_, h2, _⟩ | ⟨_, _, h3, _⟩ | ⟨_, _, ys, h3, e⟩
  · exact absurd (aq_one t k0 k1) h1
  · rw [hb] at h2; cases h2
  · rw [hn, s] at h3; cases h3
  · rw [hn, s, Option.some.injEq] at h3
    rw [e, h3]

end Go.Proofs.Ythkmoabkeblbjaa
