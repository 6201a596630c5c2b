/- Terms moved into another table: the sums of it. -/
import Derived.Test.YthkmoabkeblbjaaTmD
import Derived.Test.YthkmoabkeblbjaaNu
import Derived.Test.YthkmoabkeblbjaaNt
namespace Go.Proofs.Ythkmoabkeblbjaa
open Go.RowKit

/-- A number for each of so many places. -/
def tab (L : Nat) (f : Int → Int) : List Int := (List.range L).map fun i : Nat => f (i : Int)

theorem tab_len (L : Nat) (f : Int → Int) : (tab L f).length = L := by simp [tab]

theorem tab_at {L : Nat} (f : Int → Int) {i : Nat} (h : i < L) : (tab L f).getD i 0 = f i := by simp [tab, List.getD, h]

theorem tab_zero (L : Nat) : tab L (fun _ => 0) = List.replicate L 0 := by
  unfold tab
  rw [List.map_const']
  simp

def updP (f : Int → Int) (p v : Int) : Int → Int := fun i => if i = p then v else f i

theorem tab_set {L : Nat} (f : Int → Int) {k : Nat} (v : Int) : (tab L f).set k v = tab L (updP f k v) := by
  apply List.ext_getElem
  · simp [tab]
  · intro i h1 h2
    simp only [tab, List.length_set, List.length_map, List.length_range] at h1
    rw [List.getElem_set]
    simp only [tab, updP, List.getElem_map, List.getElem_range]
    by_cases h : k = i
    · rw [if_pos h, if_pos (by omega)]
    · rw [if_neg h, if_neg (by omega)]

/-- What has come of a table when so many terms were moved into it. -/
structure Mv where
  c : Int
  pl : Int → Int
  tb : List T4

def mvR (fr : List T4) : List Int → (Int → Int) → List T4 → Mv
  | [], pl, tb => ⟨0, pl, tb⟩
  | p :: ps, pl, tb => if (put tb (mvT (tmAt fr p) pl)).c = 0 then mvR fr ps (updP pl p (put tb (mvT (tmAt fr p) pl)).k) (put tb (mvT (tmAt fr p) pl)).l else ⟨(put tb (mvT (tmAt fr p) pl)).c, pl, tb⟩

theorem mvR_drop (fr : List T4) (zs : List Int) (pl : Int → Int) (tb : List T4) (k : Nat) (h : k < zs.length) {p : Int} (hp : zs.getD k 0 = p) :
    mvR fr (zs.drop k) pl tb = if (put tb (mvT (tmAt fr p) pl)).c = 0 then mvR fr (zs.drop (k + 1)) (updP pl p (put tb (mvT (tmAt fr p) pl)).k) (put tb (mvT (tmAt fr p) pl)).l else ⟨(put tb (mvT (tmAt fr p) pl)).c, pl, tb⟩ := by
  rw [List.drop_eq_getElem_cons h, mvR]
  have e : zs[k] = p := by rw [← hp]; simp [List.getD, h]
  rw [e]

theorem mvR_end (fr : List T4) (zs : List Int) (pl : Int → Int) (tb : List T4) (k : Nat) (h : zs.length ≤ k) : mvR fr (zs.drop k) pl tb = ⟨0, pl, tb⟩ := by
  rw [List.drop_of_length_le h, mvR]

def PlOk (pl : Int → Int) : Prop := ∀ i, 0 ≤ pl i ∧ pl i ≤ 400

theorem PlOk.zero : PlOk (fun _ => 0) := fun _ => ⟨Int.le_refl 0, (by decide : (0 : Int) ≤ 400)⟩

theorem PlOk.upd {pl : Int → Int} (h : PlOk pl) {p v : Int} (hv : 0 ≤ v ∧ v ≤ 400) : PlOk (updP pl p v) := by
  intro i
  unfold updP
  split
  · exact hv
  · exact h i

theorem PlOk.ok {pl : Int → Int} (h : PlOk pl) (i : Int) : okI (pl i) := okI_of (by have := (h i).1; omega) (by have := (h i).2; omega)

theorem mvT_ok {t : T4} (ht : okT t) {pl : Int → Int} (h : PlOk pl) : okT (mvT t pl) := by
  have z : okI 0 := okI_of (by decide) (by decide)
  unfold mvT
  split
  · exact ht
  · split
    · exact ⟨(okI_of (by decide) (by decide) : okI 6), h.ok _, z, z⟩
    · split
      · exact ⟨(okI_of (by decide) (by decide) : okI 7), okI_min (h.ok _) (h.ok _), okI_max (h.ok _) (h.ok _), z⟩
      · exact ⟨ht.1, h.ok _, h.ok _, z⟩

theorem mvT_both {t : T4} {pl : Int → Int} (h : t.o = 7) : mvT t pl = bothT (pl t.a) (pl t.b) := by
  unfold mvT bothT
  rw [h, kids7]
  simp

theorem mvT_ways {t : T4} (h : 1 ≤ t.o ∧ t.o ≤ 7) (pl : Int → Int) : (t.o = 1 ∧ mvT t pl = t) ∨ ((t.o == 1) = false ∧ t.o = 2 ∧ mvT t pl = t) ∨ ((t.o == 1) = false ∧ (t.o == 2) = false ∧ t.o = 6 ∧ 0 < kids t.o ∧ mvT t pl = ⟨6, pl t.a, 0, 0⟩)
    ∨ ((t.o == 1) = false ∧ (t.o == 2) = false ∧ (t.o == 6) = false ∧ t.o = 7 ∧ 1 < kids t.o ∧ mvT t pl = ⟨7, min (pl t.a) (pl t.b), max (pl t.a) (pl t.b), 0⟩)
    ∨ ((t.o == 1) = false ∧ (t.o == 2) = false ∧ (t.o == 6) = false ∧ (t.o == 7) = false ∧ 1 < kids t.o ∧ mvT t pl = ⟨t.o, pl t.a, pl t.b, 0⟩) := by
  simp only [beq_eq_false_iff_ne]
  unfold mvT
  rcases kids_ways t.o with ⟨e, hk⟩ | ⟨e, hk⟩ | ⟨e, hk⟩ | ⟨e, hk⟩ | ⟨e, hk⟩ | ⟨h3, h4, h5, h7, h6, hk⟩
  iterate 3
    · exact .inr (.inr (.inr (.inr ⟨by omega, by omega, by omega, by omega, by omega, by rw [if_neg (by omega), if_neg (by omega), if_neg (by omega)]⟩)))
  · exact .inr (.inr (.inr (.inl ⟨by omega, by omega, by omega, e, by omega, by rw [if_neg (by omega), if_neg (by omega), if_pos e]⟩)))
  · exact .inr (.inr (.inl ⟨by omega, by omega, e, by omega, by rw [if_neg (by omega), if_pos e]⟩))
  · have e : t.o = 1 ∨ t.o = 2 := by omega
    rcases e with e | e
    · exact .inl ⟨e, by rw [if_pos hk]⟩
    · exact .inr (.inl ⟨by omega, e, by rw [if_pos hk]⟩)

/-- What comes of moving a term of one table into another. -/
@[irreducible] def mvP (fr : List T4) (q : Int) (tb : List T4) : Put :=
  if (mvR fr (prL fr q.toNat) (fun _ => 0) tb).c = 0 then ⟨0, (mvR fr (prL fr q.toNat) (fun _ => 0) tb).pl q, (mvR fr (prL fr q.toNat) (fun _ => 0) tb).tb⟩ else ⟨(mvR fr (prL fr q.toNat) (fun _ => 0) tb).c, 0, []⟩

@[irreducible] def mvF (fr : List T4) (q : Int) (tb : List T4) : Put :=
  if tfC fr = 0 then (if tfC tb = 0 then (if btw q 0 ((fr.length : Int) - 1) = true then mvP fr q tb else ⟨3, 0, []⟩) else ⟨tfC tb, 0, []⟩) else ⟨tfC fr, 0, []⟩

theorem mvF_ways (fr : List T4) (q : Int) (tb : List T4) : (tfC fr ≠ 0 ∧ mvF fr q tb = ⟨tfC fr, 0, []⟩) ∨ (tfC fr = 0 ∧ tfC tb ≠ 0 ∧ mvF fr q tb = ⟨tfC tb, 0, []⟩)
    ∨ (tfC fr = 0 ∧ tfC tb = 0 ∧ btw q 0 ((fr.length : Int) - 1) = false ∧ mvF fr q tb = ⟨3, 0, []⟩) ∨ (tfC fr = 0 ∧ tfC tb = 0 ∧ btw q 0 ((fr.length : Int) - 1) = true ∧ mvF fr q tb = mvP fr q tb) := by
  unfold mvF
  by_cases h1 : tfC fr = 0
  · by_cases h2 : tfC tb = 0
    · cases h3 : btw q 0 ((fr.length : Int) - 1)
      · exact .inr (.inr (.inl ⟨h1, h2, rfl, by rw [if_pos h1, if_pos h2, if_neg (by simp)]⟩))
      · exact .inr (.inr (.inr ⟨h1, h2, rfl, by rw [if_pos h1, if_pos h2, if_pos rfl]⟩))
    · exact .inr (.inl ⟨h1, h2, by rw [if_pos h1, if_neg h2]⟩)
  · exact .inl ⟨h1, by rw [if_neg h1]⟩

theorem mvR_len (fr : List T4) : ∀ (zs : List Int) (pl : Int → Int) (tb : List T4), tb.length ≤ 400 → (mvR fr zs pl tb).tb.length ≤ 400
  | [], pl, tb, h => h
  | p :: ps, pl, tb, h => by
    rw [mvR]
    split
    · exact mvR_len fr ps _ _ (put_len h)
    · exact h

theorem mvP_len {fr : List T4} {q : Int} {tb : List T4} (h : tb.length ≤ 400) : (mvP fr q tb).l.length ≤ 400 := by
  unfold mvP
  split
  · exact mvR_len _ _ _ _ h
  · exact Nat.zero_le _

theorem mvF_len (fr : List T4) (q : Int) (tb : List T4) : (mvF fr q tb).l.length ≤ 400 := by
  rcases mvF_ways fr q tb with ⟨_, h⟩ | ⟨_, _, h⟩ | ⟨_, _, _, h⟩ | ⟨_, h1, _, h⟩
  · rw [h]; exact Nat.zero_le _
  · rw [h]; exact Nat.zero_le _
  · rw [h]; exact Nat.zero_le _
  · rw [h]; exact mvP_len (tfC_zero h1).1

end Go.Proofs.Ythkmoabkeblbjaa
