/- Put together: PktH, Same. -/
import Derived.Test.YtfldgeokigcokaaPkt
import Derived.Test.YtfldgeokigcokaaApp
import Derived.WalkSpells
import Derived.Laws.BytesArg

/- The law's own helpers over packets and their results, by contracts. -/
namespace Go.Proofs.Ytfldgeokigcokaa
open Go.RowKit

/-- The cells of two packets that lie in variables of the call's own. -/
def Held2 (B0 B1 : Nat) (f t r l x y s f' t' r' l' x' y' s' : Value) (w : World) : Prop :=
  w.cell? ⟨B0, 0, none⟩ = some f ∧ w.cell? ⟨B0, 1, none⟩ = some t ∧ w.cell? ⟨B0, 2, none⟩ = some r ∧ w.cell? ⟨B0, 3, none⟩ = some l ∧ w.cell? ⟨B0, 4, none⟩ = some x ∧ w.cell? ⟨B0, 5, none⟩ = some y ∧ w.cell? ⟨B0, 6, none⟩ = some s ∧
  w.cell? ⟨B1, 0, none⟩ = some f' ∧ w.cell? ⟨B1, 1, none⟩ = some t' ∧ w.cell? ⟨B1, 2, none⟩ = some r' ∧ w.cell? ⟨B1, 3, none⟩ = some l' ∧ w.cell? ⟨B1, 4, none⟩ = some x' ∧ w.cell? ⟨B1, 5, none⟩ = some y' ∧ w.cell? ⟨B1, 6, none⟩ = some s'

theorem held2 {w w' : World} {B0 B1 : Nat} {f t r l x y s f' t' r' l' x' y' s' : Value} (h0 : At w B0 [f, t, r, l, x, y, s]) (h1 : At w B1 [f', t', r', l', x', y', s']) (b : Below w.heap.size w w') : Held2 B0 B1 f t r l x y s f' t' r' l' x' y' s' w' := by
  obtain ⟨f0, f1, f2, f3, f4, f5, f6, _⟩ := (h0.kept b).seven
  obtain ⟨g0, g1, g2, g3, g4, g5, g6, _⟩ := (h1.kept b).seven
  exact ⟨f0, f1, f2, f3, f4, f5, f6, g0, g1, g2, g3, g4, g5, g6⟩

theorem At.newR (w : World) (k f t r l x y s : Value) (e : TypeId) : At (w.alloc (.cells #[k, f, t, r, l, x, y, s] e)) w.heap.size [k, f, t, r, l, x, y, s] := by
  refine ⟨by simp, fun i v hi => ?_⟩
  rw [World.cell?_alloc_at _ _ _ _ rfl]
  match i, hi with
  | 0, hi => simpa using hi
  | 1, hi => simpa using hi
  | 2, hi => simpa using hi
  | 3, hi => simpa using hi
  | 4, hi => simpa using hi
  | 5, hi => simpa using hi
  | 6, hi => simpa using hi
  | 7, hi => simpa using hi

theorem At.eight {w : World} {B : Nat} {k f t r l x y s : Value} (h : At w B [k, f, t, r, l, x, y, s]) : w.cell? ⟨B, 0, none⟩ = some k ∧ w.cell? ⟨B, 1, none⟩ = some f ∧ w.cell? ⟨B, 2, none⟩ = some t ∧ w.cell? ⟨B, 3, none⟩ = some r ∧ w.cell? ⟨B, 4, none⟩ = some l ∧ w.cell? ⟨B, 5, none⟩ = some x ∧ w.cell? ⟨B, 6, none⟩ = some y ∧ w.cell? ⟨B, 7, none⟩ = some s ∧ B < w.heap.size :=
  ⟨h.2 0 k rfl, h.2 1 f rfl, h.2 2 t rfl, h.2 3 r rfl, h.2 4 l rfl, h.2 5 x rfl, h.2 6 y rfl, h.2 7 s rfl, h.1⟩

theorem At.set {w : World} {B i : Nat} {vs : List Value} (h : At w B vs) (hi : i < vs.length) (v : Value) : At (w.setCell ⟨B, i, none⟩ v) B (vs.set i v) := by
  refine ⟨by simpa [World.setCell] using h.1, fun j u hj => ?_⟩
  by_cases hij : i = j
  · subst hij
    rw [List.getElem?_set_self hi] at hj
    simp only [Option.some.injEq] at hj
    subst hj
    exact World.cell?_setCell_same w _ _ (h.2 i (vs[i]) (List.getElem?_eq_getElem hi))
  · rw [List.getElem?_set_ne hij] at hj
    rw [World.cell?_setCell_other w _ _ _ (by simp)]
    exact h.2 j u hj

theorem At.other {w : World} {B : Nat} {vs : List Value} {p : Addr} (h : At w B vs) (hp : p.block ≠ B) (v : Value) : At (w.setCell p v) B vs := by
  refine ⟨by simpa [World.setCell] using h.1, fun j u hj => ?_⟩
  rw [World.cell?_setCell_other w _ _ _ (by intro e; exact hp (by rw [e]))]
  exact h.2 j u hj

/-- A variable that is not frozen. -/
def Fz (w : World) (B : Nat) : Prop := ∀ o, w.frozen? ⟨B, o, none⟩ = false

theorem Fz.new (w : World) (vs : Array Value) (e : TypeId) : Fz (w.alloc (.cells vs e)) w.heap.size := by
  intro o; simp [go_sem]

theorem Fz.kept {w w' : World} {B : Nat} (h : Fz w B) (hB : B < w.heap.size) (hb : Below w.heap.size w w') : Fz w' B := fun o =>
  (hb.frozen (p := ⟨B, o, none⟩) hB).trans (h o)

theorem Fz.set {w : World} {B : Nat} (h : Fz w B) (p : Addr) (v : Value) : Fz (w.setCell p v) B := by
  intro o; simpa [go_sem] using h o

end Go.Proofs.Ytfldgeokigcokaa

/- Bytes compared and cloned by the library; packets compared: both sides. -/
namespace Go.Proofs.Ytfldgeokigcokaa
open Go.RowKit

/-- A slice's address names no spot within an element. -/
def NoSpot (c : Option Addr) : Prop := ∀ x, c = some x → x.spot = none

theorem Own.noSpot {k : IntKind} {e : TypeId} {w : World} {base : Nat} {a : Option Addr} {cap : Nat} {zs : List Int} (h : Own k e w base a cap zs) : NoSpot a := by
  intro x hx
  subst hx
  rcases h.2 with ⟨h0, _⟩ | ⟨g, cap', cur, hv, _⟩
  · simp at h0
  · simp only [Value.slice.injEq, true_and, Option.some.injEq] at hv
    rw [hv.1]

/-- A string of bytes that can be read; an empty one too. -/
theorem convert_any {w : World} {c : Option Addr} {n d : Nat} {ns : List Int} (h : Rd .u8 w c ns) (h0 : NoSpot c) (hl : ns.length = n) :
    (convert 22 9 (.slice c n d)).run Try.prog w = .ok (.string (strOfNums ns)) w := by
  cases c with
  | none =>
    have : ns = [] := by
      rcases h with h | ⟨b, off, h, _⟩
      · exact h
      · cases h
    subst this
    exact run_convert_bytes_nil w 22 5 Try.underlying22 Try.underlying5 n d 9 Try.underlying9
  | some x =>
    obtain ⟨b, off, spot⟩ := x
    have hs : spot = none := h0 _ rfl
    subst hs
    refine run_convert_bytes_arg w 22 5 Try.underlying22 Try.underlying5 b off n d ns hl (fun i hi => ?_) 9 Try.underlying9
    rcases h with h | ⟨b', off', h, hc⟩
    · subst h; simp at hl; omega
    · simp only [Option.some.injEq, Addr.mk.injEq, and_true] at h
      obtain ⟨rfl, rfl⟩ := h
      exact hc i (by omega)

/-- Two rows of bytes are the same, as strings. -/
@[irreducible] def eqB (xs ys : List Int) : Bool := (strOfNums xs).toList == (strOfNums ys).toList

theorem eqB_self (xs : List Int) : eqB xs xs = true := by unfold eqB; simp

theorem eqB_out (xs ys : List Int) : ((strOfNums xs).toList == (strOfNums ys).toList) = eqB xs ys := by unfold eqB; rfl

theorem equal_ok (a b : Option Addr) (n m ca cb : Nat) (xs ys : List Int) (w : World) (ha : Rd .u8 w a xs) (hb : Rd .u8 w b ys) (sa : NoSpot a) (sb : NoSpot b) (hn : xs.length = n) (hm : ys.length = m) :
    Calls Try.prog 77 #[.slice a n ca, .slice b m cb] w fun e w' => e = .returned (.bool (eqB xs ys)) ∧ w' = w := by
  have q1 := convert_any (d := ca) ha sa hn
  have q2 := convert_any (d := cb) hb sb hm
  have h := eqB_out xs ys
  go_enter Try.func77, Try.ntmps77
  go_wp2
  go_ret
  exact ⟨rfl, rfl⟩

theorem clone_any (a : Option Addr) (m cap : Nat) (zs : List Int) (w : World) (ha : Rd .u8 w a zs) (hm : zs.length = m) (hx : m ≤ 1048576) :
    Calls Try.prog 78 #[.slice a m cap] w fun e w' => ∃ c d, e = .returned (.slice c m d) ∧ Own .u8 5 w' w.heap.size c d zs ∧ Below w.heap.size w w' := by
  cases a with
  | none =>
    have h0 : zs = [] := by
      rcases ha with h | ⟨b, off, h, _⟩
      · exact h
      · cases h
    subst h0
    simp at hm
    subst hm
    have qT : ∀ w : World, (binOp .eql 22 (.slice none 0 cap) (.slice none 0 0)).run Try.prog w = .ok (.bool true) w := fun w => Lib.run_eql_slice_nil w _ _ _ _ _ _ _ Try.underlying22
    go_enter Try.func78, Try.ntmps78
    go_wp2
    go_ret
    exact ⟨none, 0, rfl, own_none, Below.refl _ _⟩
  | some x =>
    obtain ⟨i0, hi, g0, g1, g2⟩ := info_parts Try.info_u8
    have hmade : (w.alloc (.cells #[] 5)).ownsRow w.heap.size 5 1 (.slice (some ⟨w.heap.size, 0, none⟩) 0 0) 0 (([] : List Int).map (Value.int .u8)) := by
      simpa using World.ownsRow_made (base := w.heap.size) (e := 5) (size := 1) w #[] 0 (Nat.le_refl _) (Nat.zero_le _) rfl
    have hx2 : 0 + m ≤ 140737488355328 := by omega
    have hR := ha.kept (belowA w (.cells #[] 5))
    have qT : ∀ w : World, (binOp .eql 22 (.slice (some x) m cap) (.slice none 0 0)).run Try.prog w = .ok (.bool false) w := fun w => Lib.run_eql_slice_nil w _ _ _ _ _ _ _ Try.underlying22
    go_enter Try.func78, Try.ntmps78
    go_wp2_with (at_builtin; refine wpList_append_rd _ rfl _ _ 22 rfl w.heap.size 5 i0 Try.underlying22 hi g0 g1 g2 _ 0 [] rfl hmade (some x) m cap zs rfl hR hm (fun h => by cases h) hx2 (by simp) ?_)
    intro v1 w1 hown hg
    have hb := (belowA w (.cells #[] 5)).grown hg (by simp) (by simp [Value.ownBlock])
    have hown' : w1.ownsRow w.heap.size 5 1 v1 m (zs.map (Value.int .u8)) := by simpa using hown
    obtain ⟨c, d, rfl⟩ := ownsRow_shape hown'
    have HO := Hid.mk (Own.mk hown' hm)
    clear hown hown' hg
    go_wp2
    go_ret
    exact ⟨c, d, rfl, HO.out, hb⟩

/-- Two packets are the same. -/
@[irreducible] def sameP (f t r l x y f' t' r' l' x' y' : Int) (xs ys : List Int) : Bool :=
  (f == f') && ((t == t') && ((r == r') && ((l == l') && ((x == x') && ((y == y') && eqB xs ys)))))

theorem sameP_self (f t r l x y : Int) (xs : List Int) : sameP f t r l x y f t r l x y xs xs = true := by unfold sameP; simp [eqB_self]

theorem eq_or (a b : Int) : (a = b) ∨ ((a == b) = false) := by
  by_cases h : a = b
  · exact .inl h
  · exact .inr (by simp [h])

end Go.Proofs.Ytfldgeokigcokaa
