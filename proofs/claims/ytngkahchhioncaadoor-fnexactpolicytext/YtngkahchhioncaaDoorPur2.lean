/- What two selectors have in common holds just the packets that both hold. -/
import Derived.Test.YtngkahchhioncaaDoorPur
namespace Go.Proofs.YtngkahchhioncaaDoor
open Go.RowKit

theorem fitP_nums {f t r l u v : Int} {n : Nat} (h : pfC f t r l u v n = 0) : ((0 ≤ u ∧ u ≤ 65535) ∧ (0 ≤ v ∧ v ≤ 65535) ∧ 1 ≤ r) ∧ (bareP r = true → u = 0 ∧ v = 0) := by
  obtain ⟨h1, h2, _⟩ := pfC_zero h
  have h3 := fitP_iff.1 h1
  refine ⟨by omega, fun hb => h2 ?_⟩
  unfold bareP at hb
  revert hb
  cases portsP r <;> simp

theorem fits_common {x y : S9} (hx : sfC x = 0) (hy : sfC y = 0) : (0 ≤ x.a ∧ x.b ≤ 4294967295 ∧ 0 ≤ x.c ∧ x.d ≤ 4294967295 ∧ 0 ≤ x.e ∧ x.f ≤ 65535 ∧ 0 ≤ x.g ∧ x.h ≤ 65535 ∧ 0 ≤ x.r ∧ x.r ≤ 255) ∧ (0 ≤ y.a ∧ y.b ≤ 4294967295 ∧ 0 ≤ y.c ∧ y.d ≤ 4294967295 ∧ 0 ≤ y.e ∧ y.f ≤ 65535 ∧ 0 ≤ y.g ∧ y.h ≤ 65535 ∧ 0 ≤ y.r ∧ y.r ≤ 255) := by
  have fx := fitS_iff.1 (sfC_zero hx).1
  have fy := fitS_iff.1 (sfC_zero hy).1
  omega

/-- The code, and the selector, of what two right ones have in common. -/
theorem meet_parts {x y : S9} (hx : sfC x = 0) (hy : sfC y = 0) :
    (mtC x y = 0 ∧ (upS (cmS x y).a (cmS x y).b (cmS x y).c (cmS x y).d (cmS x y).e (cmS x y).f (cmS x y).g (cmS x y).h = true ∧ (x.r = 0 ∨ y.r = 0 ∨ x.r = y.r) ∧ ((bareP (nwP x.r y.r) = false ∧ mtS x y = cmS x y) ∨ (bareP (nwP x.r y.r) = true ∧ max x.e y.e = 0 ∧ max x.g y.g = 0 ∧ mtS x y = ⟨max x.a y.a, min x.b y.b, max x.c y.c, min x.d y.d, 0, 65535, 0, 65535, nwP x.r y.r⟩)))) ∨
    (mtC x y = 4 ∧ (upS (cmS x y).a (cmS x y).b (cmS x y).c (cmS x y).d (cmS x y).e (cmS x y).f (cmS x y).g (cmS x y).h = false ∨ (¬ (x.r = 0 ∨ y.r = 0 ∨ x.r = y.r)) ∨ (bareP (nwP x.r y.r) = true ∧ ¬ (max x.e y.e = 0 ∧ max x.g y.g = 0)))) := by
  obtain ⟨e1, e2⟩ := mtC_right hx hy
  have hc := cmS_is x y
  have hce : (cmS x y).e = max x.e y.e := by rw [hc]
  have hcg : (cmS x y).g = max x.g y.g := by rw [hc]
  have hcr : (cmS x y).r = nwP x.r y.r := by rw [hc]
  have ht : (tkP x.r y.r || tkP y.r x.r) = true ↔ (x.r = 0 ∨ y.r = 0 ∨ x.r = y.r) := by
    rw [Bool.or_eq_true, tkP_iff, tkP_iff]; omega
  rcases cmC_ways (tkP x.r y.r || tkP y.r x.r) (cmS x y) with ⟨g1, g2⟩ | ⟨g1, g2, g3⟩ | ⟨g1, g2, g3, g4⟩ | ⟨g1, g2, g3, g4, g5⟩ | ⟨g1, g2, g3, g4, g5⟩
  · exact .inr ⟨e1.trans g2, .inl g1⟩
  · exact .inr ⟨e1.trans g3, .inr (.inl fun h => by rw [ht.2 h] at g2; cases g2)⟩
  · have h0 := e1.trans g4
    rw [hcr] at g3
    exact .inl ⟨h0, g1, ht.1 g2, .inl ⟨g3, by rw [e2, if_pos h0, wcS_else (by rw [hcr]; exact g3)]⟩⟩
  · rw [hce, hcg] at g4
    rw [hcr] at g3
    refine .inr ⟨e1.trans g5, .inr (.inr ⟨g3, fun h => ?_⟩)⟩
    rw [h.1, h.2] at g4
    simp at g4
  · have h0 := e1.trans g5
    rw [hce, hcg] at g4
    simp only [Bool.and_eq_true, beq_iff_eq] at g4
    have g3' := g3
    rw [hcr] at g3
    refine .inl ⟨h0, g1, ht.1 g2, .inr ⟨g3, g4.1, g4.2, ?_⟩⟩
    rw [e2, if_pos h0, wcS_bare g3', hc]

theorem nwP_is (a b : Int) : nwP a b = if a = 0 then b else a := by unfold nwP; rfl

theorem mt_fault {x y : S9} (hx : sfC x = 0) (hy : sfC y = 0) (h : mtC x y = 0) : sfC (mtS x y) = 0 := by
  have hf := fits_common hx hy
  rcases meet_parts hx hy with ⟨_, h1, h2, h3⟩ | ⟨h1, _⟩
  · have h1 := upS_iff.1 h1
    have hr : 0 ≤ nwP x.r y.r ∧ nwP x.r y.r ≤ 255 := by rw [nwP_is]; split <;> omega
    have hc := cmS_is x y
    rcases h3 with ⟨h4, h5⟩ | ⟨h4, h5, h6, h7⟩
    · rw [h5]
      rw [hc] at h1 ⊢
      dsimp only at h1
      refine sfC_yes (fitS_iff.2 ?_) fun hb => ?_
      · dsimp only; omega
      · dsimp only at hb; rw [h4] at hb; cases hb
    · rw [h7]
      rw [hc] at h1
      dsimp only at h1
      refine sfC_yes (fitS_iff.2 ?_) fun _ => wholeP_iff.2 ?_
      · dsimp only; omega
      · exact ⟨rfl, rfl, rfl, rfl⟩
  · omega

set_option maxHeartbeats 8000000 in
theorem meet_holds {x y : S9} (hx : sfC x = 0) (hy : sfC y = 0) (f t r l u v : Int) (n : Nat) :
    (hoP x f t r l u v n && hoP y f t r l u v n) = ((mtC x y == 0) && hoP (mtS x y) f t r l u v n) := by
  rw [Bool.eq_iff_iff]
  simp only [Bool.and_eq_true, beq_iff_eq, hoP_iff]
  have hc := cmS_is x y
  constructor
  · rintro ⟨⟨_, hp, h1⟩, _, _, h2⟩
    rw [inP_iff] at h1 h2
    obtain ⟨hn, hb0⟩ := fitP_nums hp
    have hr : nwP x.r y.r = 0 ∨ nwP x.r y.r = r := by rw [nwP_is]; split <;> omega
    have hcom : x.r = 0 ∨ y.r = 0 ∨ x.r = y.r := by omega
    have hf := fits_common hx hy
    rcases meet_parts hx hy with ⟨h0, _, _, h5⟩ | ⟨_, h3⟩
    · refine ⟨h0, mt_fault hx hy h0, hp, ?_⟩
      rcases h5 with ⟨_, h7⟩ | ⟨_, _, _, h7⟩
      · rw [h7, hc, inP_iff]; dsimp only; omega
      · rw [h7, inP_iff]; dsimp only; omega
    · exfalso
      rcases h3 with h3 | h3 | ⟨h3, h4⟩
      · rw [hc] at h3
        dsimp only at h3
        have : upS (max x.a y.a) (min x.b y.b) (max x.c y.c) (min x.d y.d) (max x.e y.e) (min x.f y.f) (max x.g y.g) (min x.h y.h) = true := upS_iff.2 (by omega)
        rw [this] at h3; cases h3
      · exact h3 hcom
      · rcases hr with hr | hr
        · rw [hr] at h3; rw [bareP_iff] at h3; omega
        · rw [hr] at h3
          have := hb0 h3
          omega
  · rintro ⟨h0, _, hp, h1⟩
    rcases meet_parts hx hy with ⟨_, _, h4, h5⟩ | ⟨h3, _⟩
    · obtain ⟨hn, hb0⟩ := fitP_nums hp
      rcases h5 with ⟨_, h7⟩ | ⟨hb, he, hg, h7⟩
      · rw [h7, hc, inP_iff] at h1
        dsimp only at h1
        rw [nwP_is] at h1
        refine ⟨⟨hx, hp, inP_iff.2 ?_⟩, hy, hp, inP_iff.2 ?_⟩ <;> (split at h1 <;> omega)
      · rw [h7, inP_iff] at h1
        dsimp only at h1
        have hr : nwP x.r y.r = r := by
          have := bareP_iff.1 hb
          omega
        rw [hr] at hb
        have hz := hb0 hb
        have hf := fits_common hx hy
        have fx := fitS_iff.1 (sfC_zero hx).1
        have fy := fitS_iff.1 (sfC_zero hy).1
        rw [nwP_is] at hr
        refine ⟨⟨hx, hp, inP_iff.2 ?_⟩, hy, hp, inP_iff.2 ?_⟩ <;> (split at hr <;> omega)
    · omega

theorem cmS_comm {x y : S9} (h : x.r = 0 ∨ y.r = 0 ∨ x.r = y.r) : cmS x y = cmS y x := by
  have hr : nwP x.r y.r = nwP y.r x.r := by rw [nwP_is, nwP_is]; split <;> split <;> omega
  rw [cmS_is, cmS_is, hr]
  congr 1 <;> omega

theorem mtC_comm {x y : S9} (hx : sfC x = 0) (hy : sfC y = 0) : mtC x y = mtC y x := by
  rw [(mtC_right hx hy).1, (mtC_right hy hx).1, Bool.or_comm]
  by_cases h : x.r = 0 ∨ y.r = 0 ∨ x.r = y.r
  · rw [cmS_comm h]
  · have ht : (tkP y.r x.r || tkP x.r y.r) = false := by
      rw [← Bool.not_eq_true, Bool.or_eq_true, tkP_iff, tkP_iff]; omega
    rw [ht]
    unfold cmC
    simp

/-- A right selector holds its sample. -/
theorem holds_sample {x : S9} (h : sfC x = 0) (r : Int) (hr : r = if x.r = 0 then 6 else x.r) : hoP x x.a x.c r 64 x.e x.g 0 = true := by
  obtain ⟨hf, hb⟩ := sfC_zero h
  have f := fitS_iff.1 hf
  rw [hoP_iff, inP_iff]
  refine ⟨h, ?_, by split at hr <;> omega⟩
  have hfit : fitP x.a x.c r 64 x.e x.g = true := fitP_iff.2 (by split at hr <;> omega)
  unfold pfC
  rw [if_pos hfit, if_neg, if_neg (by decide)]
  rintro ⟨h1, h2⟩
  by_cases h0 : x.r = 0
  · rw [if_pos h0] at hr
    subst hr
    have : portsP 6 = true := portsP_iff.2 (.inl rfl)
    rw [this] at h1; cases h1
  · rw [if_neg h0] at hr
    subst hr
    have hbp : bareP x.r = true := by unfold bareP; simp [h0, h1]
    have hw := wholeP_iff.1 (hb hbp)
    omega

end Go.Proofs.YtngkahchhioncaaDoor
