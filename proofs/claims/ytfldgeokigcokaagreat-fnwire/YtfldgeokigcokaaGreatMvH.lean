/- Terms numbered: what comes of it. -/
import Derived.Test.YtfldgeokigcokaaGreatMvG
namespace Go.Proofs.YtfldgeokigcokaaGreat
open Go.RowKit

/-- The numbers of the terms of a table, and the table of what they number. -/
structure Nb where
  pl : Int → Int
  tb : List T4

def nbS (fr t0 : List T4) : Nat → Nb
  | 0 => ⟨fun _ => 0, t0⟩
  | k + 1 => ⟨updP (nbS fr t0 k).pl k (tmIdx (nbS fr t0 k).tb (mvT (fr.getD k zTerm) (nbS fr t0 k).pl) : Nat), if mvT (fr.getD k zTerm) (nbS fr t0 k).pl ∈ (nbS fr t0 k).tb then (nbS fr t0 k).tb else (nbS fr t0 k).tb ++ [mvT (fr.getD k zTerm) (nbS fr t0 k).pl]⟩

structure NbI (fr t0 : List T4) (k : Nat) (s : Nb) : Prop where
  nice : Nice s.tb
  pre : ∃ ys, s.tb = t0 ++ ys ∧ ys.length ≤ k
  leads : ∀ j : Nat, j < k → Leads fr s.tb s.pl j
  small : ∀ i, 0 ≤ s.pl i ∧ s.pl i ≤ t0.length + k

theorem nb_ok {fr t0 : List T4} (hv : tfC fr = 0) (T : Nice t0) : ∀ k, k ≤ fr.length → NbI fr t0 k (nbS fr t0 k)
  | 0, _ => ⟨T, ⟨[], by simp [nbS], by simp⟩, fun j hj => by omega, fun i => ⟨Int.le_refl 0, by simp only [nbS]; omega⟩⟩
  | k + 1, hk => by
    have I := nb_ok hv T k (by omega)
    rw [nbS]
    generalize nbS fr t0 k = s at *
    obtain ⟨pl, tb⟩ := s
    obtain ⟨hN, ⟨ys, hy1, hy2⟩, hL, hS⟩ := I
    simp only at *
    have hkid : ∀ z ∈ plc (fr.getD k zTerm), Leads fr tb pl z := by
      intro z hz
      have hz2 := plc_ahead k (by omega) (tfC_ahead hv) rfl z hz
      obtain ⟨j, rfl⟩ : ∃ j : Nat, z = (j : Int) := ⟨z.toNat, by omega⟩
      exact hL j (by omega)
    obtain ⟨hF, hD, _⟩ := mv_step hv hN (by omega) hkid
    generalize mvT (fr.getD k zTerm) pl = u at *
    have hlen : tb.length ≤ t0.length + k := by rw [hy1, List.length_append]; omega
    have small : ∀ v : Nat, v ≤ tb.length → ∀ i, 0 ≤ updP pl k (v : Int) i ∧ updP pl k (v : Int) i ≤ (t0.length : Int) + ((k + 1 : Nat) : Int) := by
      intro v hv i
      unfold updP
      split
      · omega
      · have := hS i; omega
    by_cases hm : u ∈ tb
    · rw [if_pos hm]
      have h1 := tmIdx_lt hm
      have h2 := tmIdx_at hm
      refine ⟨hN, ⟨ys, hy1, by omega⟩, ?_, small _ (by omega)⟩
      intro j hj
      by_cases hjk : j = k
      · subst hjk
        refine ⟨by omega, by omega, ?_, ?_, ?_⟩
        · simp only [updP, if_pos]; omega
        · simp only [updP, if_pos]; omega
        · simp only [updP, if_pos, Int.toNat_natCast]
          rw [den_at _ h1 hN.ahead, h2, ← hD]; rfl
      · have := (hL j (by omega)).upd (ys := []) (p := (k : Int)) (v := (tmIdx tb u : Nat)) (by omega)
        rw [List.append_nil] at this
        exact this
    · rw [if_neg hm, tmIdx_out hm]
      refine ⟨hN.snoc hF hm, ⟨ys ++ [u], by rw [hy1, List.append_assoc], by simp; omega⟩, ?_, small _ (Nat.le_refl _)⟩
      intro j hj
      by_cases hjk : j = k
      · subst hjk
        refine ⟨by omega, by omega, ?_, ?_, ?_⟩
        · simp only [updP, if_pos]; omega
        · simp only [updP, if_pos]; simp; omega
        · simp only [updP, if_pos, Int.toNat_natCast]
          rw [den_snoc hN hF, hD]
      · exact (hL j (by omega)).upd (ys := [u]) (p := (k : Int)) (by omega)

/-- Two terms have one number where they are made in the same way. -/
theorem nb_same {fa fb : List T4} {x y : Nat} (ha : tfC fa = 0) (hx : x < fa.length) (hb : tfC fb = 0) (hy : y < fb.length) :
    (nbS fa [] fa.length).pl x = (nbS fb (nbS fa [] fa.length).tb fb.length).pl y ↔ den fa x = den fb y := by
  have I1 := nb_ok ha Nice.nil fa.length (Nat.le_refl _)
  have I2 := nb_ok hb I1.nice fb.length (Nat.le_refl _)
  generalize nbS fa [] fa.length = s at *
  generalize nbS fb s.tb fb.length = r at *
  obtain ⟨_, _, a3, a4, a5⟩ := I1.leads x hx
  obtain ⟨_, _, b3, b4, b5⟩ := I2.leads y hy
  obtain ⟨ys, hys, _⟩ := I2.pre
  rw [Int.toNat_natCast] at a5 b5
  have a6 : den r.tb (s.pl x).toNat = den fa x := by rw [hys, den_app _ _ _ (by omega)]; exact a5
  have a7 : (s.pl x).toNat < r.tb.length := by rw [hys, List.length_append]; omega
  constructor
  · intro e
    rw [← a6, e, b5]
  · intro e
    have := I2.nice.inj a7 (by omega) (a6.trans (e.trans b5.symm))
    omega

end Go.Proofs.YtfldgeokigcokaaGreat
