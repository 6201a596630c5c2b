/- What a term is made of; tables in which each way to make a term stands once; terms moved. -/
import Derived.Test.YthjaehcfakjemaaDoorTmA
namespace Go.Proofs.YthjaehcfakjemaaDoor
open Go.RowKit

/-- The places that a term names. -/
@[irreducible] def plc (t : T4) : List Int := if kids t.o = 2 then [t.a, t.b] else if kids t.o = 1 then [t.a] else []

/-- What a term is made of, whichever table it stands in: the secrets of a both by their numbers. -/
inductive Tr where
  | leaf (o n : Int)
  | one (o : Int) (x : Tr)
  | two (o : Int) (x y : Tr)
deriving DecidableEq

def Tr.num : Tr → Int
  | .leaf _ n => n
  | _ => 0

/-- Of a term, with what those that it names are made of. -/
@[irreducible] def mkTr (t : T4) (x y : Tr) : Tr :=
  if kids t.o = 2 then (if t.o = 7 ∧ y.num < x.num then .two t.o y x else .two t.o x y) else if kids t.o = 1 then .one t.o x else .leaf t.o t.n

def denF (acc : List Tr) : List T4 → List Tr
  | [] => acc
  | t :: r => denF (acc ++ [mkTr t (acc.getD t.a.toNat (.leaf 0 0)) (acc.getD t.b.toNat (.leaf 0 0))]) r

/-- What the term at a place is made of. -/
@[irreducible] def den (xs : List T4) (i : Nat) : Tr := (denF [] xs).getD i (.leaf 0 0)

theorem denF_len (acc : List Tr) (xs : List T4) : (denF acc xs).length = acc.length + xs.length := by
  induction xs generalizing acc with
  | nil => rfl
  | cons x xs ih => rw [denF, ih]; simp; omega

theorem denF_pre (acc : List Tr) (xs : List T4) (i : Nat) (h : i < acc.length) : (denF acc xs).getD i (.leaf 0 0) = acc.getD i (.leaf 0 0) := by
  induction xs generalizing acc with
  | nil => rfl
  | cons x xs ih =>
    rw [denF, ih _ (by simp; omega)]
    simp only [List.getD]
    rw [List.getElem?_append_left h]

theorem denF_app (acc : List Tr) (xs ys : List T4) : denF acc (xs ++ ys) = denF (denF acc xs) ys := by
  induction xs generalizing acc with
  | nil => rfl
  | cons x xs ih => rw [List.cons_append, denF, denF, ih]

theorem den_app (xs ys : List T4) (i : Nat) (h : i < xs.length) : den (xs ++ ys) i = den xs i := by
  unfold den
  rw [denF_app, denF_pre _ _ _ (by rw [denF_len]; simpa using h)]

/-- The places that the terms name are ahead of them. -/
def Ahead (xs : List T4) : Prop := ∀ k, k < xs.length → (0 < kids (xs.getD k zTerm).o → 0 ≤ (xs.getD k zTerm).a ∧ (xs.getD k zTerm).a < k) ∧ (1 < kids (xs.getD k zTerm).o → 0 ≤ (xs.getD k zTerm).b ∧ (xs.getD k zTerm).b < k)

theorem mkTr_same (t : T4) (x y x' y' : Tr) (hx : 0 < kids t.o → x = x') (hy : 1 < kids t.o → y = y') : mkTr t x y = mkTr t x' y' := by
  unfold mkTr
  rcases kids_cases t.o with h | h | h
  · simp [h]
  · rw [hx (by omega)]; simp [h]
  · rw [hx (by omega), hy (by omega)]

theorem den_at {xs : List T4} (k : Nat) (hk : k < xs.length) (h : Ahead xs) : den xs k = mkTr (xs.getD k zTerm) (den xs (xs.getD k zTerm).a.toNat) (den xs (xs.getD k zTerm).b.toNat) := by
  have h0 : xs = xs.take k ++ (xs.getD k zTerm :: xs.drop (k + 1)) := by rw [← dropTerm xs k hk, List.take_append_drop]
  obtain ⟨ha, hb⟩ := h k hk
  generalize xs.getD k zTerm = t at *
  have e : ∀ i, i < k → (denF [] (xs.take k)).getD i (.leaf 0 0) = den xs i := by
    intro i hi
    have e1 : den xs i = den (xs.take k) i := by
      conv => lhs; rw [h0]
      exact den_app _ _ i (by simp; omega)
    rw [e1]; unfold den; rfl
  have e2 : den xs k = mkTr t ((denF [] (xs.take k)).getD t.a.toNat (.leaf 0 0)) ((denF [] (xs.take k)).getD t.b.toNat (.leaf 0 0)) := by
    conv => lhs; rw [h0]
    unfold den
    have hl : (denF [] (xs.take k)).length = k := by rw [denF_len]; simp; omega
    rw [denF_app, denF, denF_pre _ _ _ (by simp [hl])]
    simp only [List.getD]
    rw [List.getElem?_append_right (by omega), hl]
    simp
  rw [e2]
  refine mkTr_same _ _ _ _ _ (fun h => e _ ?_) (fun h => e _ ?_)
  · have := ha h; omega
  · have := hb h; omega

theorem tfC_ahead {xs : List T4} (h : tfC xs = 0) : Ahead xs := by
  intro k hk
  have h1 := (tfC_zero h).2 k hk
  have h2 := tm_zero h1.1
  simp only [List.length_take, Nat.min_eq_left (Nat.le_of_lt hk)] at h2
  exact ⟨fun e => (h2.2.2.1 e).2, fun e => h2.2.2.2.2.2.1 e⟩

/-- Nothing stands in a field that the Op does not name. -/
def Bare (t : T4) : Prop := (0 < kids t.o → t.n = 0) ∧ (kids t.o < 1 → t.a = 0) ∧ (kids t.o < 2 → t.b = 0)

/-- A table in which each way to make a term stands once. -/
structure Nice (xs : List T4) : Prop where
  ahead : Ahead xs
  bare : ∀ k, k < xs.length → Bare (xs.getD k zTerm)
  once : ∀ k, k < xs.length → xs.getD k zTerm ∉ xs.take k
  rise : ∀ k, k < xs.length → (xs.getD k zTerm).o = 7 → (tmAt xs (xs.getD k zTerm).a).o = 2 ∧ (tmAt xs (xs.getD k zTerm).b).o = 2 ∧ (xs.getD k zTerm).a ≤ (xs.getD k zTerm).b

theorem tmAt_take (xs : List T4) (k : Nat) (i : Int) (h0 : 0 ≤ i) (h : i < k) : tmAt (xs.take k) i = tmAt xs i := by
  unfold tmAt
  simp only [List.getD]
  rw [List.getElem?_take_of_lt (by omega)]

theorem tmAt_app (xs ys : List T4) (i : Int) (h0 : 0 ≤ i) (h : i < xs.length) : tmAt (xs ++ ys) i = tmAt xs i := by
  unfold tmAt
  simp only [List.getD]
  rw [List.getElem?_append_left (by omega)]

theorem getD_app (xs ys : List T4) (k : Nat) (h : k < xs.length) : (xs ++ ys).getD k zTerm = xs.getD k zTerm := by
  simp only [List.getD]
  rw [List.getElem?_append_left h]

theorem getD_last (xs : List T4) (t : T4) : (xs ++ [t]).getD xs.length zTerm = t := by simp [List.getD]

theorem ofSec_iff {o : Int} : ofSec o = true ↔ o = 6 ∨ o = 7 := by unfold ofSec; simp

theorem kids7 : kids 7 = 2 := by unfold kids; simp
theorem kids2 : kids 2 = 0 := by unfold kids; simp
theorem kids1 : kids 1 = 0 := by unfold kids; simp
theorem kids3 : kids 3 = 2 := by unfold kids; simp
theorem kids4 : kids 4 = 2 := by unfold kids; simp
theorem kids5 : kids 5 = 2 := by unfold kids; simp
theorem kids6 : kids 6 = 1 := by unfold kids; simp

theorem tmSec_false {xs : List T4} {t : T4} (h : tmSec xs t = false) : (tmAt xs t.a).o = 2 ∧ (1 < kids t.o → (tmAt xs t.b).o = 2 ∧ t.a ≤ t.b) := by
  unfold tmSec at h
  simp only [Bool.or_eq_false_iff, Bool.and_eq_false_iff, bne_eq_false_iff_eq, decide_eq_false_iff_not] at h
  refine ⟨h.1, fun e => ?_⟩
  rcases h.2 with h2 | h2
  · exact absurd e h2
  · exact ⟨h2.1, by omega⟩

theorem tfC_nice {xs : List T4} (h : tfC xs = 0) : Nice xs := by
  refine ⟨tfC_ahead h, fun k hk => ?_, fun k hk => ((tfC_zero h).2 k hk).2, fun k hk e => ?_⟩
  · obtain ⟨_, _, h1, h2, h3, _, _⟩ := tm_zero ((tfC_zero h).2 k hk).1
    exact ⟨fun e => (h1 e).1, h2, h3⟩
  · obtain ⟨ha, hb⟩ := tfC_ahead h k hk
    obtain ⟨_, _, _, _, _, _, h4⟩ := tm_zero ((tfC_zero h).2 k hk).1
    obtain ⟨h5, h6⟩ := tmSec_false (h4 (ofSec_iff.2 (.inr e)))
    rw [e, kids7] at ha hb
    obtain ⟨h7, h8⟩ := h6 (by rw [e, kids7]; decide)
    have ha := ha (by decide)
    have hb := hb (by decide)
    rw [tmAt_take _ _ _ ha.1 ha.2] at h5
    rw [tmAt_take _ _ _ hb.1 hb.2] at h7
    exact ⟨h5, h7, h8⟩

def Tr.op : Tr → Int
  | .leaf o _ => o
  | .one o _ => o
  | .two o _ _ => o

theorem mkTr_op (t : T4) (x y : Tr) : (mkTr t x y).op = t.o := by
  unfold mkTr
  split
  · split <;> rfl
  · split <;> rfl

theorem den_op {xs : List T4} (k : Nat) (hk : k < xs.length) (h : Ahead xs) : (den xs k).op = (xs.getD k zTerm).o := by rw [den_at k hk h, mkTr_op]

theorem den_fresh {xs : List T4} (k : Nat) (hk : k < xs.length) (h : Ahead xs) (ho : (xs.getD k zTerm).o = 2) : den xs k = .leaf 2 (xs.getD k zTerm).n := by
  rw [den_at k hk h]; unfold mkTr
  rw [ho, kids2]; simp

/-- Two terms of a nice table that are made in the same way are one. -/
theorem den_inj {xs : List T4} (N : Nice xs) : ∀ m k k', k + k' ≤ m → k < xs.length → k' < xs.length → den xs k = den xs k' → k = k' := by
  intro m
  induction m with
  | zero => intro k k' h _ _ _; omega
  | succ m ih =>
    intro k k' hm hk hk' he
    have key : xs.getD k zTerm = xs.getD k' zTerm := by
      have ho : (xs.getD k zTerm).o = (xs.getD k' zTerm).o := by rw [← den_op k hk N.ahead, ← den_op k' hk' N.ahead, he]
      rw [den_at k hk N.ahead, den_at k' hk' N.ahead] at he
      obtain ⟨pa, pb⟩ := N.ahead k hk
      obtain ⟨qa, qb⟩ := N.ahead k' hk'
      have B1 := N.bare k hk
      have B2 := N.bare k' hk'
      have R1 := N.rise k hk
      have R2 := N.rise k' hk'
      unfold tmAt at R1 R2
      generalize xs.getD k zTerm = t at *
      generalize xs.getD k' zTerm = u at *
      obtain ⟨o, a, b, n⟩ := t
      obtain ⟨o', a', b', n'⟩ := u
      simp only at *
      subst ho
      unfold mkTr at he
      simp only at he
      unfold Bare at B1 B2
      simp only at B1 B2
      have same : ∀ i j : Int, 0 ≤ i → 0 ≤ j → i < k → j < k' → den xs i.toNat = den xs j.toNat → i = j := fun i j h0 h1 h2 h3 e => by
        have := ih i.toNat j.toNat (by omega) (by omega) (by omega) e
        omega
      rcases kids_cases o with h | h | h
      · rw [h] at he B1 B2
        simp at he B1 B2
        rw [he, B1.1, B1.2, B2.1, B2.2]
      · rw [h] at he B1 B2 pa qa
        simp at he B1 B2 pa qa
        rw [same a a' pa.1 qa.1 pa.2 qa.2 he, B1.1, B1.2, B2.1, B2.2]
      · rw [h] at he B1 B2 pa qa pb qb
        simp at he B1 B2 pa qa pb qb
        by_cases h7 : o = 7
        · obtain ⟨r1, r2, r3⟩ := R1 h7
          obtain ⟨s1, s2, s3⟩ := R2 h7
          have r1 := den_fresh a.toNat (by omega) N.ahead r1
          have r2 := den_fresh b.toNat (by omega) N.ahead r2
          have s1 := den_fresh a'.toNat (by omega) N.ahead s1
          have s2 := den_fresh b'.toNat (by omega) N.ahead s2
          have eaa := same a a' pa.1 qa.1 pa.2 qa.2
          have ebb := same b b' pb.1 qb.1 pb.2 qb.2
          have eab := same a b' pa.1 qb.1 pa.2 qb.2
          have eba := same b a' pb.1 qa.1 pb.2 qa.2
          rw [h7] at he
          split at he <;> split at he <;> simp at he <;> obtain ⟨e1, e2⟩ := he
          · rw [eaa e2, ebb e1, B1, B2]
          · have h1 := eab e2
            have h2 := eba e1
            rw [show a' = a by omega, show b' = b by omega, B1, B2]
          · have h1 := eab e1
            have h2 := eba e2
            rw [show a' = a by omega, show b' = b by omega, B1, B2]
          · rw [eaa e1, ebb e2, B1, B2]
        · rw [if_neg (by omega), if_neg (by omega)] at he
          simp at he
          rw [same a a' pa.1 qa.1 pa.2 qa.2 he.1, same b b' pb.1 qb.1 pb.2 qb.2 he.2, B1, B2]
    rcases Nat.lt_trichotomy k k' with h | h | h
    · refine absurd ?_ (N.once k' hk')
      rw [← key, List.mem_take_iff_getElem]
      exact ⟨k, by omega, by simp [List.getD, hk]⟩
    · exact h
    · refine absurd ?_ (N.once k hk)
      rw [key, List.mem_take_iff_getElem]
      exact ⟨k', by omega, by simp [List.getD, hk']⟩

theorem Nice.inj {xs : List T4} (N : Nice xs) {k k' : Nat} (hk : k < xs.length) (hk' : k' < xs.length) (h : den xs k = den xs k') : k = k' := den_inj N _ k k' (Nat.le_refl _) hk hk' h

/-- A term may stand behind a table. -/
structure Fits (xs : List T4) (t : T4) : Prop where
  bare : Bare t
  a : 0 < kids t.o → 0 ≤ t.a ∧ t.a < xs.length
  b : 1 < kids t.o → 0 ≤ t.b ∧ t.b < xs.length
  rise : t.o = 7 → (tmAt xs t.a).o = 2 ∧ (tmAt xs t.b).o = 2 ∧ t.a ≤ t.b

theorem Nice.snoc {xs : List T4} (N : Nice xs) {t : T4} (F : Fits xs t) (h : t ∉ xs) : Nice (xs ++ [t]) := by
  have old : ∀ k, k < xs.length → (xs ++ [t]).getD k zTerm = xs.getD k zTerm := fun k hk => getD_app xs [t] k hk
  have new := getD_last xs t
  have way : ∀ k, k < (xs ++ [t]).length → k < xs.length ∨ k = xs.length := fun k hk => by simp at hk; omega
  refine ⟨fun k hk => ?_, fun k hk => ?_, fun k hk => ?_, fun k hk => ?_⟩
  · rcases way k hk with h1 | h1
    · rw [old k h1]; exact N.ahead k h1
    · rw [h1, new]; exact ⟨F.a, F.b⟩
  · rcases way k hk with h1 | h1
    · rw [old k h1]; exact N.bare k h1
    · rw [h1, new]; exact F.bare
  · rcases way k hk with h1 | h1
    · rw [old k h1, List.take_append_of_le_length (by omega)]; exact N.once k h1
    · rw [h1, new, List.take_left']; exact h; rfl
  · intro e
    rcases way k hk with h1 | h1
    · rw [old k h1] at e ⊢
      have := N.rise k h1 e
      have h2 := N.ahead k h1
      rw [e, kids7] at h2
      have h3 := h2.1 (by decide)
      have h4 := h2.2 (by decide)
      rw [tmAt_app _ _ _ h3.1 (by omega), tmAt_app _ _ _ h4.1 (by omega)]
      exact this
    · rw [h1, new] at e ⊢
      have h3 := F.a (by rw [e, kids7]; decide)
      have h4 := F.b (by rw [e, kids7]; decide)
      rw [tmAt_app _ _ _ h3.1 h3.2, tmAt_app _ _ _ h4.1 h4.2]
      exact F.rise e

/-- What a term behind a table is made of. -/
def denT (xs : List T4) (t : T4) : Tr := mkTr t (den xs t.a.toNat) (den xs t.b.toNat)

theorem den_snoc {xs : List T4} {t : T4} (N : Nice xs) (F : Fits xs t) : den (xs ++ [t]) xs.length = denT xs t := by
  have hA : Ahead (xs ++ [t]) := fun k hk => by
    rcases (show k < xs.length ∨ k = xs.length by simp at hk; omega) with h1 | h1
    · rw [getD_app _ _ _ h1]; exact N.ahead k h1
    · rw [h1, getD_last]; exact ⟨F.a, F.b⟩
  rw [den_at xs.length (by simp) hA, getD_last]
  unfold denT
  refine mkTr_same _ _ _ _ _ (fun h => ?_) (fun h => ?_)
  · have := F.a h; exact den_app _ _ _ (by omega)
  · have := F.b h; exact den_app _ _ _ (by omega)

/-- What is made as one of a table is one of the table. -/
theorem Nice.found {xs : List T4} (N : Nice xs) {t : T4} (F : Fits xs t) {k : Nat} (hk : k < xs.length) (h : den xs k = denT xs t) : xs.getD k zTerm = t ∧ t ∈ xs := by
  by_cases hm : t ∈ xs
  · refine ⟨?_, hm⟩
    have h1 := tmIdx_lt hm
    have h2 := tmIdx_at hm
    have h3 : den xs (tmIdx xs t) = denT xs t := by rw [den_at _ h1 N.ahead, h2]; rfl
    have := N.inj hk h1 (h.trans h3.symm)
    rw [this, h2]
  · have N2 := N.snoc F hm
    have h3 : den (xs ++ [t]) k = den (xs ++ [t]) xs.length := by rw [den_app _ _ _ hk, den_snoc N F]; exact h
    have := N2.inj (by simp; omega) (by simp) h3
    omega

/-- A term with other places. -/
@[irreducible] def mvT (t : T4) (pl : Int → Int) : T4 :=
  if kids t.o = 0 then t else if t.o = 6 then ⟨6, pl t.a, 0, 0⟩ else if t.o = 7 then ⟨7, min (pl t.a) (pl t.b), max (pl t.a) (pl t.b), 0⟩ else ⟨t.o, pl t.a, pl t.b, 0⟩

theorem mvT_o (t : T4) (pl : Int → Int) : (mvT t pl).o = t.o := by
  unfold mvT
  split
  · rfl
  · split
    · rename_i h; exact h.symm
    · split
      · rename_i h; exact h.symm
      · rfl

theorem mvT_same (t : T4) (pl ql : Int → Int) (ha : 0 < kids t.o → pl t.a = ql t.a) (hb : 1 < kids t.o → pl t.b = ql t.b) : mvT t pl = mvT t ql := by
  unfold mvT
  rcases kids_ways t.o with ⟨e, h⟩ | ⟨e, h⟩ | ⟨e, h⟩ | ⟨e, h⟩ | ⟨e, h⟩ | ⟨_, _, _, _, _, h⟩
  · rw [ha (by omega), hb (by omega)]
  · rw [ha (by omega), hb (by omega)]
  · rw [ha (by omega), hb (by omega)]
  · rw [ha (by omega), hb (by omega)]
  · rw [ha (by omega), if_neg (by omega), if_pos e, if_neg (by omega), if_pos e]
  · rw [if_pos h, if_pos h]

/-- The places lead where the same is made. -/
def Leads (fr : List T4) (tb : List T4) (pl : Int → Int) (i : Int) : Prop := 0 ≤ i ∧ i < fr.length ∧ 0 ≤ pl i ∧ pl i < tb.length ∧ den tb (pl i).toNat = den fr i.toNat

theorem Leads.more {fr tb ys : List T4} {pl : Int → Int} {i : Int} (h : Leads fr tb pl i) : Leads fr (tb ++ ys) pl i := by
  obtain ⟨h1, h2, h3, h4, h5⟩ := h
  exact ⟨h1, h2, h3, by simp; omega, by rw [den_app _ _ _ (by omega)]; exact h5⟩

theorem mv_fits {fr tb : List T4} (F : Nice fr) (T : Nice tb) {t : T4} (B : Bare t) {pl : Int → Int}
    (ha : 0 < kids t.o → Leads fr tb pl t.a) (hb : 1 < kids t.o → Leads fr tb pl t.b) (hr : t.o = 7 → (tmAt fr t.a).o = 2 ∧ (tmAt fr t.b).o = 2) :
    Fits tb (mvT t pl) ∧ denT tb (mvT t pl) = denT fr t := by
  obtain ⟨o, a, b, n⟩ := t
  simp only at *
  unfold Bare at B
  simp only at B
  have sec : ∀ i, Leads fr tb pl i → (tmAt fr i).o = 2 → (tmAt tb (pl i)).o = 2 := fun i L h => by
    obtain ⟨h1, h2, h3, h4, h5⟩ := L
    have e1 := den_op (pl i).toNat (by omega) T.ahead
    have e2 := den_op i.toNat (by omega) F.ahead
    rw [h5, e2] at e1
    unfold tmAt at *
    rw [← e1]; exact h
  have e7 := kids7
  have e6 := kids6
  rcases kids_ways o with ⟨e, h⟩ | ⟨e, h⟩ | ⟨e, h⟩ | ⟨e, h⟩ | ⟨e, h⟩ | ⟨h3, h4, h5, h7, h6, h⟩
  iterate 3
    · have LA := ha (by omega)
      have LB := hb (by omega)
      have em : mvT ⟨o, a, b, n⟩ pl = ⟨o, pl a, pl b, 0⟩ := by unfold mvT; dsimp only; rw [if_neg (by omega), if_neg (by omega), if_neg (by omega)]
      rw [em]
      refine ⟨⟨⟨fun _ => rfl, fun h' => absurd h' (by dsimp only; omega), fun h' => absurd h' (by dsimp only; omega)⟩, fun _ => ⟨LA.2.2.1, LA.2.2.2.1⟩, fun _ => ⟨LB.2.2.1, LB.2.2.2.1⟩, fun h' => absurd h' (by dsimp only; omega)⟩, ?_⟩
      unfold denT mkTr
      dsimp only
      rw [LA.2.2.2.2, LB.2.2.2.2]
      simp [h]
  · have LA := ha (by omega)
    have LB := hb (by omega)
    obtain ⟨r1, r2⟩ := hr e
    have s1 := sec a LA r1
    have s2 := sec b LB r2
    have f1 := den_fresh (pl a).toNat (by have := LA.2.2.2.1; have := LA.2.2.1; omega) T.ahead s1
    have f2 := den_fresh (pl b).toNat (by have := LB.2.2.2.1; have := LB.2.2.1; omega) T.ahead s2
    have em : mvT ⟨o, a, b, n⟩ pl = ⟨7, min (pl a) (pl b), max (pl a) (pl b), 0⟩ := by unfold mvT; dsimp only; rw [if_neg (by omega), if_neg (by omega), if_pos e]
    rw [em]
    have ga := LA.2.2.2.2
    have gb := LB.2.2.2.2
    obtain ⟨_, _, p1, p2, _⟩ := LA
    obtain ⟨_, _, q1, q2, _⟩ := LB
    rcases Int.le_total (pl a) (pl b) with hle | hle
    · rw [Int.min_eq_left hle, Int.max_eq_right hle]
      refine ⟨⟨⟨fun _ => rfl, fun h' => absurd h' (by dsimp only; omega), fun h' => absurd h' (by dsimp only; omega)⟩, fun _ => ⟨p1, p2⟩, fun _ => ⟨q1, q2⟩, fun _ => ⟨s1, s2, hle⟩⟩, ?_⟩
      unfold denT mkTr
      dsimp only
      rw [ga, gb, e]
      simp [kids7]
    · rw [Int.min_eq_right hle, Int.max_eq_left hle]
      refine ⟨⟨⟨fun _ => rfl, fun h' => absurd h' (by dsimp only; omega), fun h' => absurd h' (by dsimp only; omega)⟩, fun _ => ⟨q1, q2⟩, fun _ => ⟨p1, p2⟩, fun _ => ⟨s2, s1, hle⟩⟩, ?_⟩
      unfold denT mkTr
      dsimp only
      rw [e, kids7, if_pos rfl, if_pos rfl, ← ga, ← gb, f1, f2]
      unfold Tr.num
      simp only [true_and]
      by_cases c1 : (tb.getD (pl b).toNat zTerm).n < (tb.getD (pl a).toNat zTerm).n
      · rw [if_pos c1, if_neg (by omega)]
      · rw [if_neg c1]
        by_cases c2 : (tb.getD (pl a).toNat zTerm).n < (tb.getD (pl b).toNat zTerm).n
        · rw [if_pos c2]
        · rw [if_neg c2, show (tb.getD (pl a).toNat zTerm).n = (tb.getD (pl b).toNat zTerm).n by omega]
  · have LA := ha (by omega)
    have em : mvT ⟨o, a, b, n⟩ pl = ⟨6, pl a, 0, 0⟩ := by unfold mvT; dsimp only; rw [if_neg (by omega), if_pos e]
    rw [em]
    refine ⟨⟨⟨fun _ => rfl, fun h' => absurd h' (by dsimp only; omega), fun _ => rfl⟩, fun _ => ⟨LA.2.2.1, LA.2.2.2.1⟩, fun h' => absurd h' (by dsimp only; omega), fun h' => absurd h' (by dsimp only; omega)⟩, ?_⟩
    unfold denT mkTr
    dsimp only
    rw [LA.2.2.2.2, e, kids6]
    simp
  · have em : mvT ⟨o, a, b, n⟩ pl = ⟨o, a, b, n⟩ := by unfold mvT; dsimp only; rw [if_pos h]
    rw [em]
    refine ⟨⟨B, fun h' => absurd h' (by dsimp only; omega), fun h' => absurd h' (by dsimp only; omega), fun h' => absurd h' (by dsimp only; omega)⟩, ?_⟩
    unfold denT mkTr
    dsimp only
    rw [h]
    simp

/-- A term that fits, of right numbers, has no fault. -/
theorem fits_zero {xs : List T4} {t : T4} (F : Fits xs t) (ho : 1 ≤ t.o ∧ t.o ≤ 7) (hn : 0 ≤ t.n ∧ t.n ≤ 9999) (h6 : t.o = 6 → (tmAt xs t.a).o = 2) : tmC xs t = 0 := by
  have h1 : btw t.o 1 7 = true := btw_iff.2 ho
  have h2 : tmForm t = false := by
    unfold tmForm
    simp only [Bool.or_eq_false_iff, Bool.and_eq_false_iff, decide_eq_false_iff_not, bne_eq_false_iff_eq]
    obtain ⟨a, b, c⟩ := F.bare
    refine ⟨?_, ?_, ?_⟩
    · by_cases h : 0 < kids t.o
      · exact .inr (a h)
      · exact .inl h
    · by_cases h : kids t.o < 1
      · exact .inr (b h)
      · exact .inl h
    · by_cases h : kids t.o < 2
      · exact .inr (c h)
      · exact .inl h
  have h3 : tmRange xs.length t = false := by
    unfold tmRange
    simp only [Bool.or_eq_false_iff, Bool.and_eq_false_iff, decide_eq_false_iff_not, Bool.not_eq_false', btw_iff]
    refine ⟨hn, ?_, ?_⟩
    · by_cases h : 0 < kids t.o
      · have := F.a h; exact .inr ⟨this.1, by omega⟩
      · exact .inl h
    · by_cases h : 1 < kids t.o
      · have := F.b h; exact .inr ⟨this.1, by omega⟩
      · exact .inl h
  have h4 : (ofSec t.o && tmSec xs t) = false := by
    by_cases h : ofSec t.o = true
    · rw [h, Bool.true_and]
      unfold tmSec
      simp only [Bool.or_eq_false_iff, Bool.and_eq_false_iff, bne_eq_false_iff_eq, decide_eq_false_iff_not]
      rcases ofSec_iff.1 h with e | e
      · exact ⟨h6 e, .inl (by rw [e, kids6]; decide)⟩
      · obtain ⟨r1, r2, r3⟩ := F.rise e
        exact ⟨r1, .inr ⟨r2, by omega⟩⟩
    · simp [h]
  unfold tmC
  rw [h1, h2, h3, h4]; simp

theorem zero_fits {xs : List T4} {t : T4} (h : tmC xs t = 0) : Fits xs t := by
  obtain ⟨_, _, h1, h2, h3, h4, h5⟩ := tm_zero h
  refine ⟨⟨fun e => (h1 e).1, h2, h3⟩, fun e => (h1 e).2, h4, fun e => ?_⟩
  obtain ⟨h6, h7⟩ := tmSec_false (h5 (ofSec_iff.2 (.inr e)))
  obtain ⟨h8, h9⟩ := h7 (by rw [e, kids7]; decide)
  exact ⟨h6, h8, h9⟩

end Go.Proofs.YthjaehcfakjemaaDoor
