/- What is answered beside a code. -/
import Derived.Test.YthjaehcfakjemaaVar
namespace Go.Proofs.Ythjaehcfakjemaa
open Go.RowKit

/-- What is answered beside a code: nothing, if there is one. -/
@[irreducible] def z0 (k v : Int) : Int := if k = 0 then v else 0
@[irreducible] def zl (k : Int) (xs : List Int) : List Int := if k = 0 then xs else []

theorem z0_0 (v : Int) : z0 0 v = v := by unfold z0; simp
theorem zl_0 (xs : List Int) : zl 0 xs = xs := by unfold zl; simp
theorem z0_1 {k : Int} (h : k ≠ 0) (v : Int) : z0 k v = 0 := by unfold z0; simp [h]
theorem zl_1 {k : Int} (h : k ≠ 0) (xs : List Int) : zl k xs = [] := by unfold zl; simp [h]
theorem zl_len (k : Int) (xs : List Int) : (zl k xs).length ≤ xs.length := by unfold zl; split <;> simp

theorem Own.nocap {k : IntKind} {e : TypeId} {w : World} {base : Nat} {a : Option Addr} {cap : Nat} {zs : List Int} (h : Own k e w base a cap zs) : a = none → cap = 0 := by
  intro ha
  subst ha
  rcases h.2 with ⟨h0, _⟩ | ⟨g, cap', cur, hv, _⟩
  · simp only [Value.slice.injEq] at h0; exact h0.2.2
  · simp at hv

end Go.Proofs.Ythjaehcfakjemaa
