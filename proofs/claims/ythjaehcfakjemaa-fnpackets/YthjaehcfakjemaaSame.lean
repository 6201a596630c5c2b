/- Bytes compared and cloned by the library; packets compared: both sides. -/
import Derived.Test.YthjaehcfakjemaaPktH
import Derived.Test.YthjaehcfakjemaaApp
import Derived.WalkSpells
import Derived.Laws.BytesArg
namespace Go.Proofs.Ythjaehcfakjemaa
open Go.RowKit

/-- A slice's address names no spot within an element. -/
def NoSpot (c : Option Addr) : Prop := ∀ x, c = some x → x.spot = none

theorem Own.noSpot {k : IntKind} {e : TypeId} {w : World} {base : Nat} {a : Option Addr} {cap : Nat} {zs : List Int} (h : Own k e w base a cap zs) : NoSpot a := by
  intro x hx
  subst hx
  rcases h.2 with ⟨h0, _⟩ | ⟨g, cap', cur, hv, _⟩
  · simp at h0
  · simp only [Value.slice.injEq, true_and, Option.some.injEq] at hv
    rw [hv.1]

/-- A string of bytes that can be read; an empty one too. -/
theorem convert_any {w : World} {c : Option Addr} {n d : Nat} {ns : List Int} (h : Rd .u8 w c ns) (h0 : NoSpot c) (hl : ns.length = n) :
    (convert 22 9 (.slice c n d)).run Try.prog w = .ok (.string (strOfNums ns)) w := by
  cases c with
  | none =>
    have : ns = [] := by
      rcases h with h | ⟨b, off, h, _⟩
      · exact h
      · cases h
    subst this
    exact run_convert_bytes_nil w 22 5 Try.underlying22 Try.underlying5 n d 9 Try.underlying9
  | some x =>
    obtain ⟨b, off, spot⟩ := x
    have hs : spot = none := h0 _ rfl
    subst hs
    refine run_convert_bytes_arg w 22 5 Try.underlying22 Try.underlying5 b off n d ns hl (fun i hi => ?_) 9 Try.underlying9
    rcases h with h | ⟨b', off', h, hc⟩
    · subst h; simp at hl; omega
    · simp only [Option.some.injEq, Addr.mk.injEq, and_true] at h
      obtain ⟨rfl, rfl⟩ := h
      exact hc i (by omega)

/-- Two rows of bytes are the same, as strings. -/
@[irreducible] def eqB (xs ys : List Int) : Bool := (strOfNums xs).toList == (strOfNums ys).toList

theorem eqB_self (xs : List Int) : eqB xs xs = true := by unfold eqB; simp

theorem eqB_out (xs ys : List Int) : ((strOfNums xs).toList == (strOfNums ys).toList) = eqB xs ys := by unfold eqB; rfl

theorem equal_ok (a b : Option Addr) (n m ca cb : Nat) (xs ys : List Int) (w : World) (ha : Rd .u8 w a xs) (hb : Rd .u8 w b ys) (sa : NoSpot a) (sb : NoSpot b) (hn : xs.length = n) (hm : ys.length = m) :
    Calls Try.prog 33 #[.slice a n ca, .slice b m cb] w fun e w' => e = .returned (.bool (eqB xs ys)) ∧ w' = w := by
  have q1 := convert_any (d := ca) ha sa hn
  have q2 := convert_any (d := cb) hb sb hm
  have h := eqB_out xs ys
  go_enter Try.func33, Try.ntmps33
  go_wp2
  go_ret
  exact ⟨rfl, rfl⟩

theorem clone_any (a : Option Addr) (m cap : Nat) (zs : List Int) (w : World) (ha : Rd .u8 w a zs) (hm : zs.length = m) (hx : m ≤ 1048576) :
    Calls Try.prog 37 #[.slice a m cap] w fun e w' => ∃ c d, e = .returned (.slice c m d) ∧ Own .u8 5 w' w.heap.size c d zs ∧ Below w.heap.size w w' := by
  cases a with
  | none =>
    have h0 : zs = [] := by
      rcases ha with h | ⟨b, off, h, _⟩
      · exact h
      · cases h
    subst h0
    simp at hm
    subst hm
    have qT : ∀ w : World, (binOp .eql 22 (.slice none 0 cap) (.slice none 0 0)).run Try.prog w = .ok (.bool true) w := fun w => Lib.run_eql_slice_nil w _ _ _ _ _ _ _ Try.underlying22
    go_enter Try.func37, Try.ntmps37
    go_wp2
    go_ret
    exact ⟨none, 0, rfl, own_none, Below.refl _ _⟩
  | some x =>
    obtain ⟨i0, hi, g0, g1, g2⟩ := info_parts Try.info_u8
    have hmade : (w.alloc (.cells #[] 5)).ownsRow w.heap.size 5 1 (.slice (some ⟨w.heap.size, 0, none⟩) 0 0) 0 (([] : List Int).map (Value.int .u8)) := by
      simpa using World.ownsRow_made (base := w.heap.size) (e := 5) (size := 1) w #[] 0 (Nat.le_refl _) (Nat.zero_le _) rfl
    have hx2 : 0 + m ≤ 140737488355328 := by omega
    have hR := ha.kept (belowA w (.cells #[] 5))
    have qT : ∀ w : World, (binOp .eql 22 (.slice (some x) m cap) (.slice none 0 0)).run Try.prog w = .ok (.bool false) w := fun w => Lib.run_eql_slice_nil w _ _ _ _ _ _ _ Try.underlying22
    go_enter Try.func37, Try.ntmps37
    go_wp2_with (at_builtin; refine wpList_append_rd _ rfl _ _ 22 rfl w.heap.size 5 i0 Try.underlying22 hi g0 g1 g2 _ 0 [] rfl hmade (some x) m cap zs rfl hR hm (fun h => by cases h) hx2 (by simp) ?_)
    intro v1 w1 hown hg
    have hb := (belowA w (.cells #[] 5)).grown hg (by simp) (by simp [Value.ownBlock])
    have hown' : w1.ownsRow w.heap.size 5 1 v1 m (zs.map (Value.int .u8)) := by simpa using hown
    obtain ⟨c, d, rfl⟩ := ownsRow_shape hown'
    have HO := Hid.mk (Own.mk hown' hm)
    clear hown hown' hg
    go_wp2
    go_ret
    exact ⟨c, d, rfl, HO.out, hb⟩

/-- Two packets are the same. -/
@[irreducible] def sameP (f t r l x y f' t' r' l' x' y' : Int) (xs ys : List Int) : Bool :=
  (f == f') && ((t == t') && ((r == r') && ((l == l') && ((x == x') && ((y == y') && eqB xs ys)))))

theorem sameP_self (f t r l x y : Int) (xs : List Int) : sameP f t r l x y f t r l x y xs xs = true := by unfold sameP; simp [eqB_self]

theorem eq_or (a b : Int) : (a = b) ∨ ((a == b) = false) := by
  by_cases h : a = b
  · exact .inl h
  · exact .inr (by simp [h])

set_option maxHeartbeats 2000000 in
theorem implSamePacket_ok (f t r l x y f' t' r' l' x' y' : Int) (a b : Option Addr) (n m ca cb : Nat) (xs ys : List Int) (w : World) (ha : Rd .u8 w a xs) (hb : Rd .u8 w b ys) (sa : NoSpot a) (sb : NoSpot b) (hn : xs.length = n) (hm : ys.length = m) :
    Calls Try.prog 11 #[.agg #[.int .i64 f, .int .i64 t, .int .i64 r, .int .i64 l, .int .i64 x, .int .i64 y, .slice a n ca], .agg #[.int .i64 f', .int .i64 t', .int .i64 r', .int .i64 l', .int .i64 x', .int .i64 y', .slice b m cb]] w fun e w' => e = .returned (.bool (sameP f t r l x y f' t' r' l' x' y' xs ys)) ∧ Below w.heap.size w w' := by
  unfold sameP
  rcases eq_or f f' with rfl | h1
  · rcases eq_or t t' with rfl | h2
    · rcases eq_or r r' with rfl | h3
      · rcases eq_or l l' with rfl | h4
        · rcases eq_or x x' with rfl | h5
          · rcases eq_or y y' with rfl | h6
            · go_enter Try.func11, Try.ntmps11
              go_wp2_with (first | (go_at_call 33; refine (equal_ok a b n m ca cb xs ys _ (ha.kept (belowA2 _ _ _)) (hb.kept (belowA2 _ _ _)) sa sb hn hm).mono ?_; rintro e w2 ⟨rfl, rfl⟩) | go_in)
              go_ret
              exact ⟨by simp, belowA2 _ _ _⟩
            · go_enter Try.func11, Try.ntmps11
              go_wp2
              go_ret
              exact ⟨by simp [h6], belowA2 _ _ _⟩
          · go_enter Try.func11, Try.ntmps11
            go_wp2
            go_ret
            exact ⟨by simp [h5], belowA2 _ _ _⟩
        · go_enter Try.func11, Try.ntmps11
          go_wp2
          go_ret
          exact ⟨by simp [h4], belowA2 _ _ _⟩
      · go_enter Try.func11, Try.ntmps11
        go_wp2
        go_ret
        exact ⟨by simp [h3], belowA2 _ _ _⟩
    · go_enter Try.func11, Try.ntmps11
      go_wp2
      go_ret
      exact ⟨by simp [h2], belowA2 _ _ _⟩
  · go_enter Try.func11, Try.ntmps11
    go_wp2
    go_ret
    exact ⟨by simp [h1], belowA2 _ _ _⟩

end Go.Proofs.Ythjaehcfakjemaa
