/- A maker's table beside the model's: plain sums. -/
import Derived.Test.YthkmoabkeblbjaaMd
import Derived.Test.YthkmoabkeblbjaaTmX
namespace Go.Proofs.Ythkmoabkeblbjaa
open Go.RowKit

theorem mkPut_bad {m : Mk} (h : m.c ≠ 0) (t : T4) : mkPut m t = m := by unfold mkPut; rw [if_neg h]

theorem mkAt_bad {m : Mk} (h : m.c ≠ 0) (t : T4) : mkAt m t = 0 := by unfold mkAt; rw [if_neg h]

theorem mkPut_c {m : Mk} (h : m.c = 0) (t : T4) : (mkPut m t).c = (put m.l t).c := by
  unfold mkPut
  rw [if_pos h]
  split
  · rename_i h2; exact h2.symm
  · rfl

theorem mkPut_l {m : Mk} (h : m.c = 0) {t : T4} (h2 : (put m.l t).c = 0) : (mkPut m t).l = (put m.l t).l := by
  unfold mkPut
  rw [if_pos h, if_pos h2]

theorem mkAt_good {m : Mk} (h : m.c = 0) (t : T4) : mkAt m t = (put m.l t).k := by unfold mkAt; rw [if_pos h]

theorem mkPut_mono {m : Mk} {t : T4} (h : (mkPut m t).c = 0) : m.c = 0 := by
  by_cases h1 : m.c = 0
  · exact h1
  · rw [mkPut_bad h1] at h; exact absurd h h1

theorem mkL_bad {m : Mk} (h : m.c ≠ 0) : ∀ zs, (mkL m zs).1 = m
  | [] => rfl
  | [_] => rfl
  | x :: y :: r => by
    rw [mkL_two, mkL_bad h (y :: r)]
    exact mkPut_bad h _

theorem mkL_mono {m : Mk} {zs : List Int} (h : (mkL m zs).1.c = 0) : m.c = 0 := by
  by_cases h1 : m.c = 0
  · exact h1
  · rw [mkL_bad h1] at h; exact absurd h h1

theorem mkNs_bad {m : Mk} (h : m.c ≠ 0) : ∀ zs, (mkNs m zs).1 = m
  | [] => rfl
  | n :: r => by
    show (mkNs (mkPut m ⟨1, 0, 0, n⟩) r).1 = m
    rw [mkPut_bad h]
    exact mkNs_bad h r

theorem mkNs_mono {m : Mk} {zs : List Int} (h : (mkNs m zs).1.c = 0) : m.c = 0 := by
  by_cases h1 : m.c = 0
  · exact h1
  · rw [mkNs_bad h1] at h; exact absurd h h1

theorem mkW_mono {m : Mk} {zs : List Int} (h : (mkW m zs).1.c = 0) : m.c = 0 := mkNs_mono (mkL_mono h)

theorem mk2_mono {m : Mk} {o a b : Int} (h : (mk2 m o a b).1.c = 0) : m.c = 0 := mkPut_mono h

/-- A list put into a growing table that bears no code. -/
theorem mkL_plP {m : Mk} (h : m.c = 0) : ∀ zs, zs ≠ [] → (mkL m zs).1.c = (plP m.l zs).c ∧ (mkL m zs).2 = (plP m.l zs).k ∧ ((plP m.l zs).c = 0 → (mkL m zs).1.l = (plP m.l zs).l)
  | [], h1 => absurd rfl h1
  | [x], _ => ⟨h, rfl, fun _ => rfl⟩
  | x :: y :: r, _ => by
    obtain ⟨e1, e2, e3⟩ := mkL_plP h (y :: r) (by simp)
    rw [mkL_two, plP_two]
    generalize mkL m (y :: r) = A at *
    have hb := plP_bad (xs := m.l) (y :: r)
    generalize plP m.l (y :: r) = P at *
    by_cases hc : P.c = 0
    · rw [if_pos hc]
      have hA : A.1.c = 0 := by rw [e1, hc]
      have hl := e3 hc
      simp only
      rw [mkPut_c hA, mkAt_good hA, hl, e2]
      exact ⟨rfl, rfl, fun h5 => by rw [mkPut_l hA (by rw [hl]; exact h5), hl]⟩
    · rw [if_neg hc]
      have hA : A.1.c ≠ 0 := by rw [e1]; exact hc
      simp only
      rw [mkPut_bad hA, mkAt_bad hA]
      refine ⟨e1, ?_, fun h5 => absurd h5 hc⟩
      have := hb hc
      rw [this]

/-- A list put whatever its length: no places are the name 0. -/
def mkE (m : Mk) : List Int → Mk × Int
  | [] => mk2 m 1 0 0
  | x :: r => mkL m (x :: r)

theorem mkE_bad {m : Mk} (h : m.c ≠ 0) : ∀ zs, (mkE m zs).1 = m
  | [] => mkPut_bad h _
  | x :: r => mkL_bad h (x :: r)

theorem mkE_plP {m : Mk} (h : m.c = 0) : ∀ zs, (mkE m zs).1.c = (plP m.l zs).c ∧ (mkE m zs).2 = (plP m.l zs).k ∧ ((plP m.l zs).c = 0 → (mkE m zs).1.l = (plP m.l zs).l)
  | [] => ⟨mkPut_c h _, mkAt_good h _, fun h2 => mkPut_l h h2⟩
  | x :: r => mkL_plP h (x :: r) (by simp)

/-- Names put as a list whatever their number. -/
def mkV (m : Mk) (ns : List Int) : Mk × Int := mkE (mkNs m ns).1 (mkNs m ns).2

theorem put_bad0 {xs : List T4} {t : T4} (h : (put xs t).c ≠ 0) : (put xs t).k = 0 := by rw [put_bad h]

theorem mkL_at_le {m : Mk} (h : m.l.length ≤ 400) {zs : List Int} (hz : ∀ z ∈ zs, 0 ≤ z ∧ z ≤ 400) : 0 ≤ (mkL m zs).2 ∧ (mkL m zs).2 ≤ 400 := by
  match zs with
  | [] => exact ⟨Int.le_refl _, by show (0 : Int) ≤ 400; omega⟩
  | [x] => exact hz x (by simp)
  | x :: y :: r => rw [mkL_two]; exact mkAt_le (mkL_len h _) _

theorem mkNs_at_le {m : Mk} (h : m.l.length ≤ 400) (ns : List Int) : ∀ z ∈ (mkNs m ns).2, 0 ≤ z ∧ z ≤ 400 := by
  induction ns generalizing m with
  | nil => intro z hz; cases hz
  | cons n r ih =>
    intro z hz
    have hz : z ∈ mkAt m ⟨1, 0, 0, n⟩ :: (mkNs (mkPut m ⟨1, 0, 0, n⟩) r).2 := hz
    rcases List.mem_cons.1 hz with rfl | h2
    · exact mkAt_le h _
    · exact ih (mkPut_len h _) z h2

end Go.Proofs.Ythkmoabkeblbjaa
