/- Bytes compared and cloned by the library; packets compared: both sides. -/
import Derived.Test.YtfldgeokigcokaaGreatPktH
import Derived.Test.YtfldgeokigcokaaGreatApp
import Derived.WalkSpells
import Derived.Laws.BytesArg
namespace Go.Proofs.YtfldgeokigcokaaGreat
open Go.RowKit

/-- A slice's address names no spot within an element. -/
def NoSpot (c : Option Addr) : Prop := ∀ x, c = some x → x.spot = none

theorem Own.noSpot {k : IntKind} {e : TypeId} {w : World} {base : Nat} {a : Option Addr} {cap : Nat} {zs : List Int} (h : Own k e w base a cap zs) : NoSpot a := by
  intro x hx
  subst hx
  rcases h.2 with ⟨h0, _⟩ | ⟨g, cap', cur, hv, _⟩
  · simp at h0
  · simp only [Value.slice.injEq, true_and, Option.some.injEq] at hv
    rw [hv.1]

/-- A string of bytes that can be read; an empty one too. -/
theorem convert_any {w : World} {c : Option Addr} {n d : Nat} {ns : List Int} (h : Rd .u8 w c ns) (h0 : NoSpot c) (hl : ns.length = n) :
    (convert 22 9 (.slice c n d)).run Tryz.prog w = .ok (.string (strOfNums ns)) w := by
  cases c with
  | none =>
    have : ns = [] := by
      rcases h with h | ⟨b, off, h, _⟩
      · exact h
      · cases h
    subst this
    exact run_convert_bytes_nil w 22 5 Tryz.underlying22 Tryz.underlying5 n d 9 Tryz.underlying9
  | some x =>
    obtain ⟨b, off, spot⟩ := x
    have hs : spot = none := h0 _ rfl
    subst hs
    refine run_convert_bytes_arg w 22 5 Tryz.underlying22 Tryz.underlying5 b off n d ns hl (fun i hi => ?_) 9 Tryz.underlying9
    rcases h with h | ⟨b', off', h, hc⟩
    · subst h; simp at hl; omega
    · simp only [Option.some.injEq, Addr.mk.injEq, and_true] at h
      obtain ⟨rfl, rfl⟩ := h
      exact hc i (by omega)

/-- Two rows of bytes are the same, as strings. -/
@[irreducible] def eqB (xs ys : List Int) : Bool := (strOfNums xs).toList == (strOfNums ys).toList

theorem eqB_self (xs : List Int) : eqB xs xs = true := by unfold eqB; simp

theorem eqB_out (xs ys : List Int) : ((strOfNums xs).toList == (strOfNums ys).toList) = eqB xs ys := by unfold eqB; rfl

theorem equal_ok (a b : Option Addr) (n m ca cb : Nat) (xs ys : List Int) (w : World) (ha : Rd .u8 w a xs) (hb : Rd .u8 w b ys) (sa : NoSpot a) (sb : NoSpot b) (hn : xs.length = n) (hm : ys.length = m) :
    Calls Tryz.prog 44 #[.slice a n ca, .slice b m cb] w fun e w' => e = .returned (.bool (eqB xs ys)) ∧ w' = w := by
  have q1 := convert_any (d := ca) ha sa hn
  have q2 := convert_any (d := cb) hb sb hm
  have h := eqB_out xs ys
  go_enter Tryz.func44, Tryz.ntmps44
  go_wp2
  go_ret
  exact ⟨rfl, rfl⟩

/-- Two packets are the same. -/
@[irreducible] def sameP (f t r l x y f' t' r' l' x' y' : Int) (xs ys : List Int) : Bool :=
  (f == f') && ((t == t') && ((r == r') && ((l == l') && ((x == x') && ((y == y') && eqB xs ys)))))

theorem sameP_self (f t r l x y : Int) (xs : List Int) : sameP f t r l x y f t r l x y xs xs = true := by unfold sameP; simp [eqB_self]

theorem eq_or (a b : Int) : (a = b) ∨ ((a == b) = false) := by
  by_cases h : a = b
  · exact .inl h
  · exact .inr (by simp [h])

end Go.Proofs.YtfldgeokigcokaaGreat
