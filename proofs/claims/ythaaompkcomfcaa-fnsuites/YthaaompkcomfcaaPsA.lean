/- Suites: their faults, what two lists have in common, which is stronger, their bytes: plain sums. -/
import Derived.Test.YthaaompkcomfcaaSuiteA
namespace Go.Proofs.Ythaaompkcomfcaa
open Go.RowKit

/-- A suite without a fault. -/
def okSu (x : Su) : Bool := (decide (1 ≤ x.c) && decide (x.c ≤ 4)) && (decide (x.b = 128) || decide (x.b = 192) || decide (x.b = 256)) && (decide (1 ≤ x.m) && decide (x.m ≤ 3)) && (decide (1 ≤ x.g) && decide (x.g ≤ 6))

theorem okSu_iff (x : Su) : okSu x = true ↔ (1 ≤ x.c ∧ x.c ≤ 4) ∧ (x.b = 128 ∨ x.b = 192 ∨ x.b = 256) ∧ (1 ≤ x.m ∧ x.m ≤ 3) ∧ (1 ≤ x.g ∧ x.g ≤ 6) := by
  simp only [okSu, Bool.and_eq_true, Bool.or_eq_true, decide_eq_true_eq]
  constructor
  · rintro ⟨⟨⟨h1, h2⟩, h3⟩, h4⟩; exact ⟨h1, by omega, h3, h4⟩
  · rintro ⟨h1, h2, h3, h4⟩; exact ⟨⟨⟨h1, by omega⟩, h3⟩, h4⟩

def sfC (x : Su) : Int := if okSu x = true then 0 else 3

theorem sfC_yes {x : Su} (h : okSu x = true) : sfC x = 0 := if_pos h
theorem sfC_no {x : Su} (h : okSu x = false) : sfC x = 3 := if_neg (by simp [h])

/-- A suite is in a list. -/
def hasSu (xs : List Su) (x : Su) : Bool := xs.any fun y => decide (y = x)

theorem hasSu_iff {xs : List Su} {x : Su} : hasSu xs x = true ↔ x ∈ xs := by
  simp [hasSu]

theorem hasSu_drop (xs : List Su) (v : Su) (k : Nat) (h : k < xs.length) {z : Su} (hz : xs.getD k zSuite = z) : hasSu (xs.drop k) v = (decide (z = v) || hasSu (xs.drop (k + 1)) v) := by
  unfold hasSu
  rw [List.drop_eq_getElem_cons h, List.any_cons]
  have e : xs[k] = z := by rw [← hz]; simp [List.getD, h]
  rw [e]

/-- The place of a suite in a list, or -1. -/
def atSu : List Su → Su → Int → Int
  | [], _, _ => -1
  | z :: zs, v, k => if z = v then k else atSu zs v (k + 1)

theorem atSu_has (xs : List Su) (v : Su) (k : Int) (h : 0 ≤ k) : decide (0 ≤ atSu xs v k) = hasSu xs v := by
  induction xs generalizing k with
  | nil => rfl
  | cons z zs ih =>
    unfold atSu
    show _ = (decide (z = v) || hasSu zs v)
    by_cases hz : z = v
    · simp [hz, h]
    · rw [if_neg hz]; simp only [hz, decide_false, Bool.false_or]; exact ih (k + 1) (by omega)

theorem atSu_drop (xs : List Su) (v : Su) (k : Nat) (h : k < xs.length) {z : Su} (hz : xs.getD k zSuite = z) : atSu (xs.drop k) v k = if z = v then (k : Int) else atSu (xs.drop (k + 1)) v ((k + 1 : Nat) : Int) := by
  rw [List.drop_eq_getElem_cons h, atSu]
  have e : xs[k] = z := by rw [← hz]; simp [List.getD, h]
  rw [e]; rfl

theorem atSu_lt (xs : List Su) (v : Su) (k : Int) : -1 ≤ atSu xs v k ∨ k < -1 := by
  induction xs generalizing k with
  | nil => exact .inl (Int.le_refl _)
  | cons z zs ih =>
    unfold atSu
    split
    · omega
    · rcases ih (k + 1) with h | h
      · exact .inl h
      · exact .inr (by omega)

/-- The fault of the suites from one place on; those ahead are known. -/
def ssL (s : List Su) : List Su → Int
  | [] => 0
  | x :: r => if okSu x = true then (if hasSu s x = true then 7 else ssL (s ++ [x]) r) else 3

/-- The fault of a list of suites. -/
def ssF (xs : List Su) : Int := if xs.length < 1 ∨ 10 < xs.length then 2 else ssL [] xs

theorem ssL_at (xs : List Su) (k : Nat) (h : k < xs.length) {z : Su} (hz : xs.getD k zSuite = z) :
    ssL (xs.take k) (xs.drop k) = if okSu z = true then (if hasSu (xs.take k) z = true then 7 else ssL (xs.take (k + 1)) (xs.drop (k + 1))) else 3 := by
  have e : xs[k] = z := by rw [← hz]; simp [List.getD, h]
  rw [List.drop_eq_getElem_cons h, ssL, e, List.take_add_one]
  simp [h, e]

theorem ssL_ok {s xs : List Su} (hs : s.Nodup) (hk : ∀ x ∈ s, okSu x = true) (h : ssL s xs = 0) : (s ++ xs).Nodup ∧ ∀ x ∈ s ++ xs, okSu x = true := by
  induction xs generalizing s with
  | nil => simpa using ⟨hs, hk⟩
  | cons x r ih =>
    unfold ssL at h
    split at h
    · rename_i h1
      split at h
      · cases h
      · rename_i h2
        have hn : x ∉ s := fun hm => h2 (hasSu_iff.2 hm)
        have hs' : (s ++ [x]).Nodup := by
          rw [List.nodup_append]
          refine ⟨hs, by simp, fun a ha b hb => ?_⟩
          simp at hb; subst hb; rintro rfl; exact hn ha
        have hk' : ∀ y ∈ s ++ [x], okSu y = true := by
          intro y hy
          rcases List.mem_append.1 hy with hy | hy
          · exact hk y hy
          · simp at hy; subst hy; exact h1
        have := ih hs' hk' h
        simpa using this
    · cases h

theorem ssL_ways (s xs : List Su) : ssL s xs = 0 ∨ ssL s xs = 3 ∨ ssL s xs = 7 := by
  induction xs generalizing s with
  | nil => exact .inl rfl
  | cons x r ih =>
    unfold ssL
    split
    · split
      · exact .inr (.inr rfl)
      · exact ih _
    · exact .inr (.inl rfl)

theorem ssF_ok {xs : List Su} (h : ssF xs = 0) : 1 ≤ xs.length ∧ xs.length ≤ 10 ∧ xs.Nodup ∧ ∀ x ∈ xs, okSu x = true := by
  unfold ssF at h
  split at h
  · cases h
  · have := ssL_ok (s := []) (by simp) (by simp) h
    simp at this
    exact ⟨by omega, by omega, this⟩

theorem ssF_many {xs : List Su} (h : xs.length < 1 ∨ 10 < xs.length) : ssF xs = 2 := if_pos h
theorem ssF_few {xs : List Su} (h1 : 1 ≤ xs.length) (h2 : xs.length ≤ 10) : ssF xs = ssL [] xs := if_neg (by omega)

theorem ssL_no {s xs : List Su} (h : (s ++ xs).Nodup) (hk : ∀ x ∈ xs, okSu x = true) : ssL s xs = 0 := by
  induction xs generalizing s with
  | nil => rfl
  | cons x r ih =>
    unfold ssL
    rw [if_pos (hk x (by simp))]
    have hn : x ∉ s := by
      intro hm
      have := (List.nodup_append.1 h).2.2 x hm x (by simp)
      exact this rfl
    rw [if_neg (by rw [hasSu_iff]; exact hn)]
    exact ih (by simpa using h) (fun y hy => hk y (by simp [hy]))

theorem ssF_no {xs : List Su} (h1 : 1 ≤ xs.length) (h2 : xs.length ≤ 10) (h : xs.Nodup) (hk : ∀ x ∈ xs, okSu x = true) : ssF xs = 0 := by
  rw [ssF_few h1 h2]; exact ssL_no (by simpa using h) hk

/-- What two lists have in common. -/
def cmL (xs ys : List Su) : List Su := xs.filter (hasSu ys)

theorem cmL_len (xs ys : List Su) : (cmL xs ys).length ≤ xs.length := List.length_filter_le _ _

theorem cmL_take (xs ys : List Su) (k : Nat) (h : k < xs.length) {z : Su} (hz : xs.getD k zSuite = z) : cmL (xs.take (k + 1)) ys = cmL (xs.take k) ys ++ (if hasSu ys z = true then [z] else []) := by
  have e : xs[k] = z := by rw [← hz]; simp [List.getD, h]
  rw [List.take_add_one]
  simp only [h, List.getElem?_eq_getElem, Option.toList_some, cmL, List.filter_append, e]
  congr 1
  simp [List.filter]
  split <;> simp_all

/-- The answer on two lists: its fault. -/
def csC (xs ys : List Su) : Int := if ssF xs = 0 then (if ssF ys = 0 then (if cmL xs ys = [] then 4 else 0) else ssF ys) else ssF xs

/-- The answer on two lists: the suites. -/
def csL (xs ys : List Su) : List Su := if ssF xs = 0 then (if ssF ys = 0 then cmL xs ys else []) else []

theorem cs_ways (xs ys : List Su) : (ssF xs ≠ 0 ∧ csC xs ys = ssF xs ∧ csL xs ys = []) ∨ (ssF xs = 0 ∧ ssF ys ≠ 0 ∧ csC xs ys = ssF ys ∧ csL xs ys = []) ∨ (ssF xs = 0 ∧ ssF ys = 0 ∧ cmL xs ys = [] ∧ csC xs ys = 4 ∧ csL xs ys = []) ∨ (ssF xs = 0 ∧ ssF ys = 0 ∧ cmL xs ys ≠ [] ∧ csC xs ys = 0 ∧ csL xs ys = cmL xs ys) := by
  by_cases h1 : ssF xs = 0
  · by_cases h2 : ssF ys = 0
    · by_cases h3 : cmL xs ys = []
      · exact .inr (.inr (.inl ⟨h1, h2, h3, by simp [csC, h1, h2, h3], by simp [csL, h1, h2, h3]⟩))
      · exact .inr (.inr (.inr ⟨h1, h2, h3, by simp [csC, h1, h2, h3], by simp [csL, h1, h2]⟩))
    · exact .inr (.inl ⟨h1, h2, by simp [csC, h1, h2], by simp [csL, h1, h2]⟩)
  · exact .inl ⟨h1, by simp [csC, h1], by simp [csL, h1]⟩

theorem csL_len (xs ys : List Su) : (csL xs ys).length ≤ 10 := by
  rcases cs_ways xs ys with ⟨_, _, h⟩ | ⟨_, _, _, h⟩ | ⟨_, _, _, _, h⟩ | ⟨h1, _, _, _, h⟩ <;> rw [h]
  · exact Nat.zero_le _
  · exact Nat.zero_le _
  · exact Nat.zero_le _
  · exact Nat.le_trans (cmL_len _ _) (ssF_ok h1).2.1

/-- The first place of what two lists have in common. -/
def fstC (ys : List Su) : List Su → Nat
  | [] => 0
  | x :: r => if hasSu ys x = true then 0 else fstC ys r + 1

theorem fstC_at {xs ys : List Su} {x : Su} {r : List Su} (h : cmL xs ys = x :: r) (k : Int) : fstC ys xs < xs.length ∧ xs.getD (fstC ys xs) zSuite = x ∧ atSu xs x k = k + (fstC ys xs : Int) := by
  induction xs generalizing k with
  | nil => cases h
  | cons y l ih =>
    unfold cmL at h
    by_cases hy : hasSu ys y = true
    · rw [List.filter_cons_of_pos hy] at h
      simp only [List.cons.injEq] at h
      obtain ⟨rfl, _⟩ := h
      simp [fstC, hy, atSu]
    · rw [List.filter_cons_of_neg hy] at h
      obtain ⟨h1, h2, h3⟩ := ih h (k + 1)
      have hx : hasSu ys x = true := by
        have : x ∈ l.filter (hasSu ys) := by rw [h]; simp
        exact (List.mem_filter.1 this).2
      have hne : y ≠ x := by rintro rfl; exact hy hx
      rw [fstC, if_neg hy, atSu, if_neg hne, h3]
      refine ⟨by simp; omega, by simpa [List.getD] using h2, by omega⟩

theorem fstC_drop (xs ys : List Su) (k : Nat) (h : k < xs.length) {z : Su} (hz : xs.getD k zSuite = z) : fstC ys (xs.drop k) = if hasSu ys z = true then 0 else fstC ys (xs.drop (k + 1)) + 1 := by
  have e : xs[k] = z := by rw [← hz]; simp [List.getD, h]
  rw [List.drop_eq_getElem_cons h, fstC, e]

theorem fstC_le (ys xs : List Su) : fstC ys xs ≤ xs.length := by
  induction xs with
  | nil => exact Nat.le_refl _
  | cons x r ih => unfold fstC; split <;> simp <;> omega

theorem fstC_none {xs ys : List Su} : fstC ys xs = xs.length ↔ cmL xs ys = [] := by
  induction xs with
  | nil => simp [fstC, cmL]
  | cons x r ih =>
    unfold fstC
    by_cases hy : hasSu ys x = true
    · rw [if_pos hy]; unfold cmL; rw [List.filter_cons_of_pos hy]; simp
    · rw [if_neg hy]; unfold cmL at ih ⊢; rw [List.filter_cons_of_neg hy]; simp; simpa using ih

/-- The choice: its place, the suite. -/
def chA (xs ys : List Su) : Int := if csC xs ys = 0 then (fstC ys xs : Int) else 0
def chS (xs ys : List Su) : Su := if csC xs ys = 0 then xs.getD (fstC ys xs) zSuite else zSuite

theorem cm_cons {xs ys : List Su} (h : cmL xs ys ≠ []) : ∃ r, cmL xs ys = xs.getD (fstC ys xs) zSuite :: r ∧ atSu xs (xs.getD (fstC ys xs) zSuite) 0 = (fstC ys xs : Int) ∧ fstC ys xs < xs.length := by
  cases hc : cmL xs ys with
  | nil => exact absurd hc h
  | cons x r =>
    obtain ⟨h1, h2, h3⟩ := fstC_at hc 0
    rw [h2]
    exact ⟨r, rfl, by omega, h1⟩

/-- How strong: two ways to reckon it. -/
def rkI (x : Su) : Int := ((x.b * 10 + x.g) * 10 + x.m) * 10 + x.c
def rkF (x : Su) : Int := ((x.b * 257 + x.g) * 257 + x.m) * 257 + x.c

theorem rk_same {x y : Su} (hx : okSu x = true) (hy : okSu y = true) : rkI x < rkI y ↔ rkF x < rkF y := by
  rw [okSu_iff] at hx hy
  obtain ⟨c1, b1, m1, g1⟩ := x
  obtain ⟨c2, b2, m2, g2⟩ := y
  simp only [rkI, rkF] at *
  have hb : b1 + 64 ≤ b2 ∨ b1 = b2 ∨ b2 + 64 ≤ b1 := by omega
  have hg : g1 + 1 ≤ g2 ∨ g1 = g2 ∨ g2 + 1 ≤ g1 := by omega
  have hm : m1 + 1 ≤ m2 ∨ m1 = m2 ∨ m2 + 1 ≤ m1 := by omega
  obtain ⟨h1, -, h2, h3⟩ := hx
  obtain ⟨k1, -, k2, k3⟩ := hy
  rcases hb with hb | rfl | hb
  · omega
  · rcases hg with hg | rfl | hg
    · omega
    · rcases hm with hm | rfl | hm <;> omega
    · omega
  · omega

/-- The place of the strongest among the first 'k'. -/
def bst (xs : List Su) : Nat → Nat
  | 0 => 0
  | k + 1 => if rkI (xs.getD (bst xs k) zSuite) < rkI (xs.getD k zSuite) then k else bst xs k

theorem bst_one (xs : List Su) : bst xs 1 = 0 := by
  show (if _ then 0 else 0) = 0
  split <;> rfl

theorem bst_lt (xs : List Su) (k : Nat) : bst xs k = 0 ∨ bst xs k < k := by
  induction k with
  | zero => exact .inl rfl
  | succ k ih =>
    unfold bst
    split
    · exact .inr (by omega)
    · rcases ih with h | h
      · exact .inl h
      · exact .inr (by omega)

theorem bst_best (xs : List Su) (k j : Nat) (h : j < k) : rkI (xs.getD j zSuite) ≤ rkI (xs.getD (bst xs k) zSuite) := by
  induction k with
  | zero => omega
  | succ k ih =>
    unfold bst
    by_cases hj : j = k
    · subst hj
      split <;> omega
    · have := ih (by omega)
      split <;> omega

theorem atSu_nodup {xs : List Su} (h : xs.Nodup) (j : Nat) (hj : j < xs.length) (k : Int) : atSu xs (xs.getD j zSuite) k = k + (j : Int) := by
  induction xs generalizing j k with
  | nil => simp at hj
  | cons x r ih =>
    rw [List.nodup_cons] at h
    cases j with
    | zero => simp [atSu, List.getD]
    | succ j =>
      have hj' : j < r.length := by simpa using hj
      have e : (x :: r).getD (j + 1) zSuite = r.getD j zSuite := by simp [List.getD]
      have hm : r.getD j zSuite ∈ r := by rw [show r.getD j zSuite = r[j] by simp [List.getD, hj']]; exact List.getElem_mem _
      rw [e, atSu, if_neg (by rintro rfl; exact h.1 hm), ih h.2 j hj']
      omega

/-- The strongest of a list: its place, the suite. -/
def stA (xs : List Su) : Int := if ssF xs = 0 then (bst xs xs.length : Int) else 0
def stS (xs : List Su) : Su := if ssF xs = 0 then xs.getD (bst xs xs.length) zSuite else zSuite

/-- Weaker. -/
def leSu (a b : Su) : Bool := decide (a.c ≤ b.c) && decide (a.b ≤ b.b) && decide (a.m ≤ b.m) && decide (a.g ≤ b.g)
def wkB (a b : Su) : Bool := okSu a && okSu b && !decide (a = b) && leSu a b

/-- The lesser of each number. -/
def mnSu (a b : Su) : Su := ⟨min a.c b.c, min a.b b.b, min a.m b.m, min a.g b.g⟩

theorem mnSu_eq (a b : Su) : decide (a = mnSu a b) = leSu a b := by
  obtain ⟨c1, b1, m1, g1⟩ := a
  obtain ⟨c2, b2, m2, g2⟩ := b
  rw [Bool.eq_iff_iff]
  simp only [mnSu, leSu, Su.mk.injEq, decide_eq_true_eq, Bool.and_eq_true]
  omega

theorem wk_rank {a b : Su} (ha : okSu a = true) (hb : okSu b = true) (h : leSu a b = true) : decide (rkF a < rkF b) = !decide (a = b) := by
  rw [okSu_iff] at ha hb
  obtain ⟨c1, b1, m1, g1⟩ := a
  obtain ⟨c2, b2, m2, g2⟩ := b
  simp only [leSu, Bool.and_eq_true, decide_eq_true_eq] at h
  dsimp only at ha hb
  obtain ⟨⟨⟨h1, h2⟩, h3⟩, h4⟩ := h
  by_cases he : (⟨c1, b1, m1, g1⟩ : Su) = ⟨c2, b2, m2, g2⟩
  · rw [he]; simp
  · have hr : rkF ⟨c1, b1, m1, g1⟩ < rkF ⟨c2, b2, m2, g2⟩ := by
      rw [Su.mk.injEq] at he
      have hd : c1 + 1 ≤ c2 ∨ b1 + 1 ≤ b2 ∨ m1 + 1 ≤ m2 ∨ g1 + 1 ≤ g2 := by omega
      simp only [rkF]
      omega
    simp [he, hr]

theorem wk_no_stronger {x y : Su} (h : rkI y ≤ rkI x) : wkB x y = false := by
  cases hw : wkB x y with
  | false => rfl
  | true =>
    simp only [wkB, Bool.and_eq_true] at hw
    obtain ⟨⟨⟨h1, h2⟩, h3⟩, h4⟩ := hw
    have h5 := wk_rank h1 h2 h4
    rw [h3, decide_eq_true_eq, ← rk_same h1 h2] at h5
    omega

/-- The bytes of a list. -/
def enSu : List Su → List Int
  | [] => []
  | x :: r => [x.c, x.b / 64, x.m, x.g] ++ enSu r

theorem enSu_len (xs : List Su) : (enSu xs).length = 4 * xs.length := by
  induction xs with
  | nil => rfl
  | cons x r ih => simp only [enSu, List.length_append, List.length_cons, List.length_nil, ih]; omega

theorem enSu_app (xs ys : List Su) : enSu (xs ++ ys) = enSu xs ++ enSu ys := by
  induction xs with
  | nil => rfl
  | cons x r ih => simp [enSu, ih]

theorem enSu_take (xs : List Su) (k : Nat) (h : k < xs.length) {z : Su} (hz : xs.getD k zSuite = z) : enSu (xs.take (k + 1)) = enSu (xs.take k) ++ [z.c, z.b / 64, z.m, z.g] := by
  have e : xs[k] = z := by rw [← hz]; simp [List.getD, h]
  rw [List.take_add_one, enSu_app]
  simp [h, e, enSu]

def enK (xs : List Su) : List Int := if ssF xs = 0 then enSu xs else []

theorem enK_len (xs : List Su) : (enK xs).length ≤ 40 := by
  unfold enK
  split
  · rename_i h
    rw [enSu_len]
    have := (ssF_ok h).2.1
    omega
  · exact Nat.zero_le _

/-- The suites of bytes. -/
def deSu : List Int → List Su
  | a :: b :: c :: d :: r => ⟨a, 64 * b, c, d⟩ :: deSu r
  | _ => []

theorem deSu_en {xs : List Su} (h : ∀ x ∈ xs, okSu x = true) : deSu (enSu xs) = xs := by
  induction xs with
  | nil => rfl
  | cons x r ih =>
    have hx := (okSu_iff x).1 (h x (by simp))
    have e : 64 * (x.b / 64) = x.b := by omega
    simp only [enSu, List.cons_append, List.nil_append, deSu, e, ih (fun y hy => h y (by simp [hy]))]

theorem deSu_len (ds : List Int) : (deSu ds).length = ds.length / 4 := by
  match ds with
  | [] => rfl
  | [_] => simp [deSu]
  | [_, _] => simp [deSu]
  | [_, _, _] => simp [deSu]
  | a :: b :: c :: d :: r =>
    have := deSu_len r
    simp only [deSu, List.length_cons, this]
    omega

theorem deSu_drop (ds : List Int) (h : 4 ≤ ds.length) : deSu ds = ⟨ds.getD 0 0, 64 * ds.getD 1 0, ds.getD 2 0, ds.getD 3 0⟩ :: deSu (ds.drop 4) := by
  match ds, h with
  | a :: b :: c :: d :: r, _ => simp [deSu, List.getD]

/-- The answer on bytes: its fault, the suites. -/
def dsOk (ds : List Int) : Bool := decide (ds.length % 4 = 0) && decide (ds.length ≤ 40) && decide (ssF (deSu ds) = 0)
def dsC (ds : List Int) : Int := if dsOk ds = true then 0 else 5
def dsL (ds : List Int) : List Su := if dsOk ds = true then deSu ds else []

theorem ds_long {ds : List Int} (h : 40 < ds.length) : dsC ds = 5 ∧ dsL ds = [] := by
  have : dsOk ds = false := by
    unfold dsOk
    rw [Bool.and_eq_false_iff]; left
    rw [Bool.and_eq_false_iff]; right
    simp; omega
  simp [dsC, dsL, this]

theorem ds_odd {ds : List Int} (h : ds.length % 4 ≠ 0) : dsC ds = 5 ∧ dsL ds = [] := by
  have : dsOk ds = false := by simp [dsOk, h]
  simp [dsC, dsL, this]

theorem ds_bad {ds : List Int} (h : ssF (deSu ds) ≠ 0) : dsC ds = 5 ∧ dsL ds = [] := by
  have : dsOk ds = false := by simp [dsOk, h]
  simp [dsC, dsL, this]

theorem ds_good {ds : List Int} (h1 : ds.length % 4 = 0) (h2 : ds.length ≤ 40) (h3 : ssF (deSu ds) = 0) : dsC ds = 0 ∧ dsL ds = deSu ds := by
  have : dsOk ds = true := by simp [dsOk, h1, h2, h3]
  simp [dsC, dsL, this]

theorem dsL_len (ds : List Int) : (dsL ds).length ≤ 10 := by
  unfold dsL
  split
  · rename_i h
    simp only [dsOk, Bool.and_eq_true, decide_eq_true_eq] at h
    rw [deSu_len]; omega
  · exact Nat.zero_le _

theorem ds_en {xs : List Su} (h : ssF xs = 0) : dsC (enSu xs) = 0 ∧ dsL (enSu xs) = xs := by
  have h1 := ssF_ok h
  have e := deSu_en h1.2.2.2
  have := ds_good (ds := enSu xs) (by rw [enSu_len]; omega) (by rw [enSu_len]; omega) (by rw [e]; exact h)
  rw [e] at this
  exact this

/-- As many of the one list are in the other as of the other in the one. -/
theorem cm_count {xs ys : List Su} (hx : xs.Nodup) (hy : ys.Nodup) : (cmL xs ys).length = (cmL ys xs).length := by
  have sub : ∀ {ps qs : List Su}, ps.Nodup → (∀ a ∈ ps, a ∈ qs) → ps.length ≤ qs.length := by
    intro ps
    induction ps with
    | nil => intro qs _ _; exact Nat.zero_le _
    | cons a r ih =>
      intro qs hn hs
      rw [List.nodup_cons] at hn
      have ha : a ∈ qs := hs a (by simp)
      have h1 := ih (qs := qs.erase a) hn.2 (fun b hb => (List.mem_erase_of_ne (by rintro rfl; exact hn.1 hb)).2 (hs b (by simp [hb])))
      rw [List.length_erase_of_mem ha] at h1
      have : 0 < qs.length := List.length_pos_of_mem ha
      simp; omega
  have mem : ∀ {ps qs : List Su} (a : Su), a ∈ cmL ps qs ↔ a ∈ ps ∧ a ∈ qs := fun a => by simp [cmL, List.mem_filter, hasSu_iff]
  refine Nat.le_antisymm (sub (hx.filter _) fun a h => ?_) (sub (hy.filter _) fun a h => ?_)
  · exact (mem a).2 ⟨((mem a).1 h).2, ((mem a).1 h).1⟩
  · exact (mem a).2 ⟨((mem a).1 h).2, ((mem a).1 h).1⟩

theorem cm_ok {xs ys : List Su} (hx : ssF xs = 0) (hn : cmL xs ys ≠ []) : ssF (cmL xs ys) = 0 := by
  obtain ⟨_, h2, h3, h4⟩ := ssF_ok hx
  have hl := cmL_len xs ys
  exact ssF_no (List.length_pos_iff.2 hn) (by omega) (h3.filter _) fun x h => h4 x (List.mem_filter.1 h).1

end Go.Proofs.Ythaaompkcomfcaa
