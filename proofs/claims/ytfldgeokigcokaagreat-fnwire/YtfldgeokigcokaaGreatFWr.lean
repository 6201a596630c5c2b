/- Put together: App, PktH, Same. -/
import Derived.Test.YtfldgeokigcokaaGreatBase
import Derived.Laws.AppendOwnNone
import Derived.Test.YtfldgeokigcokaaGreatPkt
import Derived.WalkSpells
import Derived.Laws.BytesArg

/- 'append(out, part...)': a row of bytes of the call's own, and bytes from wherever: at a plain list, at a guard that says yes, at a step of a region that draws. -/
namespace Go.Proofs.YtfldgeokigcokaaGreat
open Go.RowKit

section
variable {P : Program} (w : World)

theorem wp_append_rd {o : Oper} {a : Act} {K : Act → World → Prop} {Q : Exit → Act → World → Prop} (s x : Operand) (t : TypeId)
    (ho : o.op = .call { callee := .builtin .append, args := #[s, x], argTypes := #[t, t] })
    (base : Nat) (e : TypeId) (i : TypeInfo) (ht : P.underlying t = some (.slice e)) (hi : P.info? e = some i) (hz : i.zero = some (.int .u8 0)) (hsize : i.size = 1) (hby : i.bytes = 1)
    (v : Value) (n : Nat) (l : List Int) (hs : a.eval s = v) (hown : w.ownsRow base e 1 v n (l.map (Value.int .u8)))
    (c : Option Addr) (m d : Nat) (zs : List Int) (hx : a.eval x = .slice c m d) (hr : Rd .u8 w c zs) (hm : zs.length = m) (hc : c = none → d = 0)
    (h63 : n + m ≤ 140737488355328) (hbase : base ≤ w.heap.size)
    (h : ∀ v' w', w'.ownsRow base e 1 v' (n + m) ((l ++ zs).map (Value.int .u8)) → w.grownBy w' v.ownBlock → K (a.put o.dst v') w') : o.wp P a w K Q := by
  cases c with
  | none =>
    have hd := hc rfl
    subst hd
    have hz0 : zs = [] := by
      rcases hr with h0 | ⟨b, off, h0, _⟩
      · exact h0
      · cases h0
    subst hz0
    simp only [List.length_nil] at hm
    subst hm
    have hr2 := run_append_owned_none (P := P) w base t o.type e i 1 ht hi v n _ hown
    unfold Oper.wp execOp
    simp only [ho, resolve, invoke, builtin, Sem.run_bind, Sem.run_pure, Result.andThen_ok, List.map_toArray, List.map_cons, List.map_nil, hs, hx, hr2]
    exact h v w (by simpa using hown) (World.grownBy.refl _ _)
  | some ad =>
    refine wp_append_own w s x t ho base e i (.int .u8 0) 1 1 ht hi hz hsize hby rfl (by decide) v n _ hs hown ad m d (zs.map (Value.int .u8)) hx (by simp [hm]) (fun j u hj => ?_) (ints_oneCell _ _) (by unfold maxLen; omega) (by omega) hbase fun v' w' h1 h2 _ => h v' w' (by simpa using h1) h2
    rcases hr with h0 | ⟨b, off, h0, hcell⟩
    · subst h0; simp at hj
    · simp only [Option.some.injEq] at h0
      subst h0
      have hj' : j < zs.length := by
        rcases Nat.lt_or_ge j zs.length with h | h
        · exact h
        · simp [List.getElem?_eq_none h] at hj
      rw [Addr.add_lit, hcell j hj']
      simp [hj'] at hj
      subst hj
      simp [List.getD, hj']

theorem wpList_append_rd {ops : Array Oper} {rest : List Oper} {o : Oper} {a : Act} {Q : Exit → Act → World → Prop} (hgd : o.guard = none) (s x : Operand) (t : TypeId)
    (ho : o.op = .call { callee := .builtin .append, args := #[s, x], argTypes := #[t, t] })
    (base : Nat) (e : TypeId) (i : TypeInfo) (ht : P.underlying t = some (.slice e)) (hi : P.info? e = some i) (hz : i.zero = some (.int .u8 0)) (hsize : i.size = 1) (hby : i.bytes = 1)
    (v : Value) (n : Nat) (l : List Int) (hs : a.eval s = v) (hown : w.ownsRow base e 1 v n (l.map (Value.int .u8)))
    (c : Option Addr) (m d : Nat) (zs : List Int) (hx : a.eval x = .slice c m d) (hr : Rd .u8 w c zs) (hm : zs.length = m) (hc : c = none → d = 0)
    (h63 : n + m ≤ 140737488355328) (hbase : base ≤ w.heap.size)
    (h : ∀ v' w', w'.ownsRow base e 1 v' (n + m) ((l ++ zs).map (Value.int .u8)) → w.grownBy w' v.ownBlock → wpList P ops Q rest (a.put o.dst v') w') : wpList P ops Q (o :: rest) a w :=
  wpList_plain hgd fun _ hK => wp_append_rd w s x t ho base e i ht hi hz hsize hby v n l hs hown c m d zs hx hr hm hc h63 hbase fun v' w' h2 h3 => hK _ _ (h v' w' h2 h3)

end

end Go.Proofs.YtfldgeokigcokaaGreat

/- The law's own helpers over packets and their results, by contracts. -/
namespace Go.Proofs.YtfldgeokigcokaaGreat
open Go.RowKit

/-- The cells of two packets that lie in variables of the call's own. -/
def Held2 (B0 B1 : Nat) (f t r l x y s f' t' r' l' x' y' s' : Value) (w : World) : Prop :=
  w.cell? ⟨B0, 0, none⟩ = some f ∧ w.cell? ⟨B0, 1, none⟩ = some t ∧ w.cell? ⟨B0, 2, none⟩ = some r ∧ w.cell? ⟨B0, 3, none⟩ = some l ∧ w.cell? ⟨B0, 4, none⟩ = some x ∧ w.cell? ⟨B0, 5, none⟩ = some y ∧ w.cell? ⟨B0, 6, none⟩ = some s ∧
  w.cell? ⟨B1, 0, none⟩ = some f' ∧ w.cell? ⟨B1, 1, none⟩ = some t' ∧ w.cell? ⟨B1, 2, none⟩ = some r' ∧ w.cell? ⟨B1, 3, none⟩ = some l' ∧ w.cell? ⟨B1, 4, none⟩ = some x' ∧ w.cell? ⟨B1, 5, none⟩ = some y' ∧ w.cell? ⟨B1, 6, none⟩ = some s'

theorem At.set {w : World} {B i : Nat} {vs : List Value} (h : At w B vs) (hi : i < vs.length) (v : Value) : At (w.setCell ⟨B, i, none⟩ v) B (vs.set i v) := by
  refine ⟨by simpa [World.setCell] using h.1, fun j u hj => ?_⟩
  by_cases hij : i = j
  · subst hij
    rw [List.getElem?_set_self hi] at hj
    simp only [Option.some.injEq] at hj
    subst hj
    exact World.cell?_setCell_same w _ _ (h.2 i (vs[i]) (List.getElem?_eq_getElem hi))
  · rw [List.getElem?_set_ne hij] at hj
    rw [World.cell?_setCell_other w _ _ _ (by simp)]
    exact h.2 j u hj

theorem At.other {w : World} {B : Nat} {vs : List Value} {p : Addr} (h : At w B vs) (hp : p.block ≠ B) (v : Value) : At (w.setCell p v) B vs := by
  refine ⟨by simpa [World.setCell] using h.1, fun j u hj => ?_⟩
  rw [World.cell?_setCell_other w _ _ _ (by intro e; exact hp (by rw [e]))]
  exact h.2 j u hj

/-- A variable that is not frozen. -/
def Fz (w : World) (B : Nat) : Prop := ∀ o, w.frozen? ⟨B, o, none⟩ = false

theorem Fz.new (w : World) (vs : Array Value) (e : TypeId) : Fz (w.alloc (.cells vs e)) w.heap.size := by
  intro o; simp [go_sem]

theorem Fz.kept {w w' : World} {B : Nat} (h : Fz w B) (hB : B < w.heap.size) (hb : Below w.heap.size w w') : Fz w' B := fun o =>
  (hb.frozen (p := ⟨B, o, none⟩) hB).trans (h o)

theorem Fz.set {w : World} {B : Nat} (h : Fz w B) (p : Addr) (v : Value) : Fz (w.setCell p v) B := by
  intro o; simpa [go_sem] using h o

end Go.Proofs.YtfldgeokigcokaaGreat

/- Bytes compared and cloned by the library; packets compared: both sides. -/
namespace Go.Proofs.YtfldgeokigcokaaGreat
open Go.RowKit

/-- A slice's address names no spot within an element. -/
def NoSpot (c : Option Addr) : Prop := ∀ x, c = some x → x.spot = none

theorem Own.noSpot {k : IntKind} {e : TypeId} {w : World} {base : Nat} {a : Option Addr} {cap : Nat} {zs : List Int} (h : Own k e w base a cap zs) : NoSpot a := by
  intro x hx
  subst hx
  rcases h.2 with ⟨h0, _⟩ | ⟨g, cap', cur, hv, _⟩
  · simp at h0
  · simp only [Value.slice.injEq, true_and, Option.some.injEq] at hv
    rw [hv.1]

/-- A string of bytes that can be read; an empty one too. -/
theorem convert_any {w : World} {c : Option Addr} {n d : Nat} {ns : List Int} (h : Rd .u8 w c ns) (h0 : NoSpot c) (hl : ns.length = n) :
    (convert 22 9 (.slice c n d)).run Tryz.prog w = .ok (.string (strOfNums ns)) w := by
  cases c with
  | none =>
    have : ns = [] := by
      rcases h with h | ⟨b, off, h, _⟩
      · exact h
      · cases h
    subst this
    exact run_convert_bytes_nil w 22 5 Tryz.underlying22 Tryz.underlying5 n d 9 Tryz.underlying9
  | some x =>
    obtain ⟨b, off, spot⟩ := x
    have hs : spot = none := h0 _ rfl
    subst hs
    refine run_convert_bytes_arg w 22 5 Tryz.underlying22 Tryz.underlying5 b off n d ns hl (fun i hi => ?_) 9 Tryz.underlying9
    rcases h with h | ⟨b', off', h, hc⟩
    · subst h; simp at hl; omega
    · simp only [Option.some.injEq, Addr.mk.injEq, and_true] at h
      obtain ⟨rfl, rfl⟩ := h
      exact hc i (by omega)

/-- Two rows of bytes are the same, as strings. -/
@[irreducible] def eqB (xs ys : List Int) : Bool := (strOfNums xs).toList == (strOfNums ys).toList

theorem eqB_out (xs ys : List Int) : ((strOfNums xs).toList == (strOfNums ys).toList) = eqB xs ys := by unfold eqB; rfl

theorem equal_ok (a b : Option Addr) (n m ca cb : Nat) (xs ys : List Int) (w : World) (ha : Rd .u8 w a xs) (hb : Rd .u8 w b ys) (sa : NoSpot a) (sb : NoSpot b) (hn : xs.length = n) (hm : ys.length = m) :
    Calls Tryz.prog 44 #[.slice a n ca, .slice b m cb] w fun e w' => e = .returned (.bool (eqB xs ys)) ∧ w' = w := by
  have q1 := convert_any (d := ca) ha sa hn
  have q2 := convert_any (d := cb) hb sb hm
  have h := eqB_out xs ys
  go_enter Tryz.func44, Tryz.ntmps44
  go_wp2
  go_ret
  exact ⟨rfl, rfl⟩

/-- Two packets are the same. -/
@[irreducible] def sameP (f t r l x y f' t' r' l' x' y' : Int) (xs ys : List Int) : Bool :=
  (f == f') && ((t == t') && ((r == r') && ((l == l') && ((x == x') && ((y == y') && eqB xs ys)))))

end Go.Proofs.YtfldgeokigcokaaGreat
