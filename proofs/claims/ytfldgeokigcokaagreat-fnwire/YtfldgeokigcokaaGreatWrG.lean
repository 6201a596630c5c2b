/- Terms as bytes: the ways of one step of the model's reading. -/
import Derived.Test.YtfldgeokigcokaaGreatWrB
namespace Go.Proofs.YtfldgeokigcokaaGreat
open Go.RowKit

/-- What has been read well. -/
structure Well (ds : List Int) (A : Put × Int) : Prop where
  c : A.1.c = 0
  right : tfC A.1.l = 0
  k0 : 0 ≤ A.1.k
  k1 : A.1.k < A.1.l.length
  e0 : 0 ≤ A.2
  e1 : A.2 ≤ ds.length

theorem dcd_well {f : Nat} {xs : List T4} {ds : List Int} {k : Nat} (hb : ∀ x ∈ ds, 0 ≤ x ∧ x < 256) (h : tfC xs = 0) (h2 : ¬ (dcd f xs ds k).2 < 0) (hc : (dcd f xs ds k).1.c = 0) : Well ds (dcd f xs ds k) := by
  rcases dcd_ways f xs ds k hb h with ⟨_, h3⟩ | ⟨t, e, he, h3, h4, h5⟩
  · omega
  · rw [h3] at hc
    have h5 := h5 hc
    obtain ⟨w, _, l1, l2, _⟩ := prs_enc _ _ _ _ _ hb he
    have C : Came xs t (ptr xs t) := by
      rcases ptr_ways t xs h w with ⟨e2, _⟩ | ⟨_, C⟩
      · rw [e2] at hc; simp at hc
      · exact C
    exact ⟨by rw [h3]; exact hc, by rw [h3]; exact C.right, by rw [h3]; exact C.k0, by rw [h3]; exact C.k1, by omega, by omega⟩

/-- The ways of one step of the model's reading. -/
theorem dcd_paths (f : Nat) (xs : List T4) (ds : List Int) (k : Nat) (hb : ∀ x ∈ ds, 0 ≤ x ∧ x < 256) (h : tfC xs = 0) (o nn : Int) (ho : ds.getD k 0 = o) (hnn : ds.getD (k + 1) 0 * 256 + ds.getD (k + 2) 0 = nn) (A B D : Put × Int) (hA : dcd f xs ds (k + 1) = A) (hB : dcd f A.1.l ds A.2.toNat = B) (hD : dcd (f + 1) xs ds k = D) :
    (ds.length ≤ k ∧ D = (⟨0, 0, []⟩, -1))
    ∨ (k < ds.length ∧ btw o 1 7 = false ∧ D = (⟨0, 0, []⟩, -1))
    ∨ (k < ds.length ∧ (o = 1 ∨ o = 2) ∧ ds.length < k + 3 ∧ D = (⟨0, 0, []⟩, -1))
    ∨ (k + 3 ≤ ds.length ∧ (o = 1 ∨ o = 2) ∧ 9999 < nn ∧ D = (⟨0, 0, []⟩, -1))
    ∨ (k + 3 ≤ ds.length ∧ (o = 1 ∨ o = 2) ∧ (0 ≤ nn ∧ nn ≤ 9999) ∧ D = (put xs ⟨o, 0, 0, nn⟩, (k : Int) + 3))
    ∨ (k < ds.length ∧ (o = 3 ∨ o = 4 ∨ o = 5 ∨ o = 6 ∨ o = 7) ∧ A.2 < 0 ∧ D = A)
    ∨ (k < ds.length ∧ (o = 3 ∨ o = 4 ∨ o = 5 ∨ o = 6 ∨ o = 7) ∧ 0 ≤ A.2 ∧ A.1.c ≠ 0 ∧ D = A)
    ∨ (k < ds.length ∧ Well ds A ∧ o = 6 ∧ (tmAt A.1.l A.1.k).o ≠ 2 ∧ D = (⟨0, 0, []⟩, -1))
    ∨ (k < ds.length ∧ Well ds A ∧ o = 6 ∧ (tmAt A.1.l A.1.k).o = 2 ∧ D = (put A.1.l ⟨6, A.1.k, 0, 0⟩, A.2))
    ∨ (k < ds.length ∧ Well ds A ∧ (o = 3 ∨ o = 4 ∨ o = 5 ∨ o = 7) ∧ B.2 < 0 ∧ D = B)
    ∨ (k < ds.length ∧ Well ds A ∧ (o = 3 ∨ o = 4 ∨ o = 5 ∨ o = 7) ∧ 0 ≤ B.2 ∧ B.1.c ≠ 0 ∧ D = B)
    ∨ (k < ds.length ∧ Well ds A ∧ Well ds B ∧ A.1.k < B.1.l.length ∧ (o = 3 ∨ o = 4 ∨ o = 5) ∧ D = (put B.1.l ⟨o, A.1.k, B.1.k, 0⟩, B.2))
    ∨ (k < ds.length ∧ Well ds A ∧ Well ds B ∧ A.1.k < B.1.l.length ∧ o = 7 ∧ (tmAt B.1.l A.1.k).o ≠ 2 ∧ D = (⟨0, 0, []⟩, -1))
    ∨ (k < ds.length ∧ Well ds A ∧ Well ds B ∧ A.1.k < B.1.l.length ∧ o = 7 ∧ (tmAt B.1.l A.1.k).o = 2 ∧ (tmAt B.1.l B.1.k).o ≠ 2 ∧ D = (⟨0, 0, []⟩, -1))
    ∨ (k < ds.length ∧ Well ds A ∧ Well ds B ∧ A.1.k < B.1.l.length ∧ o = 7 ∧ (tmAt B.1.l A.1.k).o = 2 ∧ (tmAt B.1.l B.1.k).o = 2 ∧ (tmAt B.1.l B.1.k).n < (tmAt B.1.l A.1.k).n ∧ D = (⟨0, 0, []⟩, -1))
    ∨ (k < ds.length ∧ Well ds A ∧ Well ds B ∧ A.1.k < B.1.l.length ∧ o = 7 ∧ (tmAt B.1.l A.1.k).o = 2 ∧ (tmAt B.1.l B.1.k).o = 2 ∧ (tmAt B.1.l A.1.k).n ≤ (tmAt B.1.l B.1.k).n ∧ D = (put B.1.l (bothT A.1.k B.1.k), B.2)) := by
  have WA : ¬ A.2 < 0 → A.1.c = 0 → Well ds A := fun h2 hc => by subst hA; exact dcd_well hb h h2 hc
  have WB : Well ds A → ¬ B.2 < 0 → B.1.c = 0 → Well ds B := fun w h2 hc => by subst hB; exact dcd_well hb w.right h2 hc
  have LB : Well ds A → Well ds B → A.1.k < B.1.l.length := fun w1 w2 => by
    have hp : ∃ ys, B.1.l = A.1.l ++ ys := by
      rcases dcd_ways f A.1.l ds A.2.toNat hb w1.right with ⟨_, h3⟩ | ⟨t, e, he, h3, _, _⟩
      · rw [hB] at h3; have := w2.e0; have := w2.c; omega
      · rw [hB] at h3
        obtain ⟨w, _, _, _, _⟩ := prs_enc _ _ _ _ _ hb he
        rcases ptr_ways t A.1.l w1.right w with ⟨e2, _⟩ | ⟨_, C⟩
        · have := w2.c; rw [h3, e2] at this; simp at this
        · rw [h3]; exact C.pre
    obtain ⟨ys, hy⟩ := hp
    have := w1.k1
    rw [hy, List.length_append]; omega
  have byte : ∀ i, 0 ≤ ds.getD i 0 := fun i => by
    by_cases hi : i < ds.length
    · have : ds.getD i 0 ∈ ds := by simp [List.getD, hi]
      exact (hb _ this).1
    · simp [List.getD, List.getElem?_eq_none (Nat.le_of_not_lt hi)]
  have hn0 : 0 ≤ nn := by have := byte (k + 1); have := byte (k + 2); omega
  rw [dcd, ho, hnn, hA, hB] at hD
  by_cases c1 : k < ds.length ∧ btw o 1 7 = true
  · rw [if_pos c1] at hD
    have hob := btw_iff.1 c1.2
    have c0 := c1.1
    by_cases c2 : kids o = 0
    · have ho2 : o = 1 ∨ o = 2 := by rcases kids_ways o with ⟨_, e⟩ | ⟨_, e⟩ | ⟨_, e⟩ | ⟨_, e⟩ | ⟨_, e⟩ | ⟨_, _, _, _, _, _⟩ <;> omega
      rw [if_pos c2] at hD
      by_cases c3 : k + 3 ≤ ds.length ∧ nn ≤ 9999
      · rw [if_pos c3] at hD
        exact .inr (.inr (.inr (.inr (.inl ⟨c3.1, ho2, ⟨hn0, c3.2⟩, by rw [← hD]; simp⟩))))
      · rw [if_neg c3] at hD
        by_cases c4 : k + 3 ≤ ds.length
        · exact .inr (.inr (.inr (.inl ⟨c4, ho2, by omega, hD.symm⟩)))
        · exact .inr (.inr (.inl ⟨c0, ho2, by omega, hD.symm⟩))
    · rw [if_neg c2] at hD
      have ho2 : o = 3 ∨ o = 4 ∨ o = 5 ∨ o = 6 ∨ o = 7 := by rcases kids_ways o with ⟨_, e⟩ | ⟨_, e⟩ | ⟨_, e⟩ | ⟨_, e⟩ | ⟨_, e⟩ | ⟨_, _, _, _, _, e⟩ <;> omega
      by_cases c3 : A.2 < 0
      · rw [if_pos (.inl c3)] at hD
        exact .inr (.inr (.inr (.inr (.inr (.inl ⟨c0, ho2, c3, hD.symm⟩)))))
      by_cases c4 : A.1.c = 0
      case neg =>
        rw [if_pos (.inr c4)] at hD
        exact .inr (.inr (.inr (.inr (.inr (.inr (.inl ⟨c0, ho2, by omega, c4, hD.symm⟩))))))
      rw [if_neg (fun hh => hh.elim c3 (fun e => e c4))] at hD
      have W1 := WA c3 c4
      by_cases c5 : kids o = 1
      · rw [if_pos c5] at hD
        have h6 := kids_one c5
        by_cases c6 : (tmAt A.1.l A.1.k).o = 2
        · rw [if_pos c6, h6] at hD
          exact .inr (.inr (.inr (.inr (.inr (.inr (.inr (.inr (.inl ⟨c0, W1, h6, c6, hD.symm⟩))))))))
        · rw [if_neg c6] at hD
          exact .inr (.inr (.inr (.inr (.inr (.inr (.inr (.inl ⟨c0, W1, h6, c6, hD.symm⟩)))))))
      · rw [if_neg c5] at hD
        have k6 := kids6
        have ho3 : o = 3 ∨ o = 4 ∨ o = 5 ∨ o = 7 := by
          rcases ho2 with e | e | e | e | e
          · exact .inl e
          · exact .inr (.inl e)
          · exact .inr (.inr (.inl e))
          · rw [e] at c5; exact absurd k6 c5
          · exact .inr (.inr (.inr e))
        by_cases c6 : B.2 < 0
        · rw [if_pos (.inl c6)] at hD
          exact .inr (.inr (.inr (.inr (.inr (.inr (.inr (.inr (.inr (.inl ⟨c0, W1, ho3, c6, hD.symm⟩)))))))))
        by_cases c7 : B.1.c = 0
        case neg =>
          rw [if_pos (.inr c7)] at hD
          exact .inr (.inr (.inr (.inr (.inr (.inr (.inr (.inr (.inr (.inr (.inl ⟨c0, W1, ho3, by omega, c7, hD.symm⟩))))))))))
        rw [if_neg (fun hh => hh.elim c6 (fun e => e c7))] at hD
        have W2 := WB W1 c6 c7
        have L2 := LB W1 W2
        by_cases c8 : o = 7
        · rw [if_pos c8] at hD
          by_cases g1 : (tmAt B.1.l A.1.k).o = 2
          · by_cases g2 : (tmAt B.1.l B.1.k).o = 2
            · by_cases g3 : (tmAt B.1.l A.1.k).n ≤ (tmAt B.1.l B.1.k).n
              · rw [if_neg (fun hh => hh.2 ⟨g1, g2, g3⟩)] at hD
                exact .inr (.inr (.inr (.inr (.inr (.inr (.inr (.inr (.inr (.inr (.inr (.inr (.inr (.inr (.inr ⟨c0, W1, W2, L2, c8, g1, g2, g3, hD.symm⟩))))))))))))))
              · rw [if_pos ⟨c8, fun hh => g3 hh.2.2⟩] at hD
                exact .inr (.inr (.inr (.inr (.inr (.inr (.inr (.inr (.inr (.inr (.inr (.inr (.inr (.inr (.inl ⟨c0, W1, W2, L2, c8, g1, g2, by omega, hD.symm⟩))))))))))))))
            · rw [if_pos ⟨c8, fun hh => g2 hh.2.1⟩] at hD
              exact .inr (.inr (.inr (.inr (.inr (.inr (.inr (.inr (.inr (.inr (.inr (.inr (.inr (.inl ⟨c0, W1, W2, L2, c8, g1, g2, hD.symm⟩)))))))))))))
          · rw [if_pos ⟨c8, fun hh => g1 hh.1⟩] at hD
            exact .inr (.inr (.inr (.inr (.inr (.inr (.inr (.inr (.inr (.inr (.inr (.inr (.inl ⟨c0, W1, W2, L2, c8, g1, hD.symm⟩))))))))))))
        · rw [if_neg (fun hh => c8 hh.1), if_neg c8] at hD
          exact .inr (.inr (.inr (.inr (.inr (.inr (.inr (.inr (.inr (.inr (.inr (.inl ⟨c0, W1, W2, L2, by omega, hD.symm⟩)))))))))))
  · rw [if_neg c1] at hD
    by_cases c2 : k < ds.length
    · refine .inr (.inl ⟨c2, ?_, hD.symm⟩)
      cases hb2 : btw o 1 7 with
      | false => rfl
      | true => exact absurd ⟨c2, hb2⟩ c1
    · exact .inl ⟨by omega, hD.symm⟩

end Go.Proofs.YtfldgeokigcokaaGreat
