/- Put together: KA, KB. -/
import Derived.Test.YthkmoabkeblbjaaNt
import Derived.Test.YthkmoabkeblbjaaNu
import Derived.Maps.OwnSet
import Derived.Test.YthkmoabkeblbjaaMb

/- What can be made of what is known; what is open; what follows. What is known, as marks; what lies open, by the program and by the model. -/
namespace Go.Proofs.Ythkmoabkeblbjaa
section
open Go.RowKit

/-- A half of the secret at a place is known. -/
def halfOf (xs : List T4) (K : Int → Bool) (j : Int) : Bool := (List.range xs.length).any fun i => (xs.getD i zTerm).o == 6 && (K (i : Int) && (xs.getD i zTerm).a == j)

/-- What is told of earlier places. -/
def atB (L : List Bool) (i : Int) : Bool := L.getD i.toNat false

/-- Whether a term can be made, of what can be made ahead of it. -/
@[irreducible] def cn1 (H : Int → Bool) (L : List Bool) (kn : Bool) (t : T4) : Bool :=
  if t.o = 1 then true
  else if t.o = 3 ∨ t.o = 4 ∨ t.o = 5 then kn || (atB L t.a && atB L t.b)
  else if t.o = 6 then kn || atB L t.a
  else if t.o = 7 then kn || ((atB L t.a && (atB L t.b || H t.b)) || (atB L t.b && H t.a))
  else kn

def cnF (H K : Int → Bool) : List Bool → List T4 → List Bool
  | acc, [] => acc
  | acc, t :: r => cnF H K (acc ++ [cn1 H acc (K (acc.length : Int)) t]) r

/-- Which terms can be made of those that are known. -/
@[irreducible] def canL (xs : List T4) (K : Int → Bool) : List Bool := cnF (halfOf xs K) K [] xs

def can (xs : List T4) (K : Int → Bool) (i : Nat) : Bool := (canL xs K).getD i false

theorem cnF_len (H K : Int → Bool) (acc : List Bool) (xs : List T4) : (cnF H K acc xs).length = acc.length + xs.length := by
  induction xs generalizing acc with
  | nil => rfl
  | cons x xs ih => rw [cnF, ih]; simp; omega

theorem canL_len (xs : List T4) (K : Int → Bool) : (canL xs K).length = xs.length := by unfold canL; rw [cnF_len]; simp

theorem cnF_pre (H K : Int → Bool) (acc : List Bool) (xs : List T4) (i : Nat) (h : i < acc.length) : (cnF H K acc xs).getD i false = acc.getD i false := by
  induction xs generalizing acc with
  | nil => rfl
  | cons x xs ih =>
    rw [cnF, ih _ (by simp; omega)]
    simp only [List.getD]
    rw [List.getElem?_append_left h]

theorem cnF_app (H K : Int → Bool) (acc : List Bool) (xs ys : List T4) : cnF H K acc (xs ++ ys) = cnF H K (cnF H K acc xs) ys := by
  induction xs generalizing acc with
  | nil => rfl
  | cons x xs ih => rw [List.cons_append, cnF, cnF, ih]

theorem cn1_same {H : Int → Bool} {L L' : List Bool} {kn : Bool} {t : T4} (ha : 0 < kids t.o → atB L t.a = atB L' t.a) (hb : 1 < kids t.o → atB L t.b = atB L' t.b) : cn1 H L kn t = cn1 H L' kn t := by
  unfold cn1
  rcases kids_ways t.o with ⟨e, q⟩ | ⟨e, q⟩ | ⟨e, q⟩ | ⟨e, q⟩ | ⟨e, q⟩ | ⟨e3, e4, e5, e7, e6, q⟩
  iterate 4 (rw [ha (by omega), hb (by omega)])
  · rw [ha (by omega)]; simp [e]
  · simp [e3, e4, e5, e7, e6]

/-- The flags of the first k. -/
theorem can_take {xs : List T4} {K : Int → Bool} {k : Nat} (hk : k ≤ xs.length) : cnF (halfOf xs K) K [] (xs.take k) = (canL xs K).take k := by
  have e : canL xs K = cnF (halfOf xs K) K (cnF (halfOf xs K) K [] (xs.take k)) (xs.drop k) := by
    unfold canL
    rw [← cnF_app, List.take_append_drop]
  have hl : (cnF (halfOf xs K) K [] (xs.take k)).length = k := by rw [cnF_len]; simp; omega
  apply List.ext_getElem
  · rw [hl, List.length_take, canL_len]; omega
  · intro i h1 h2
    have h3 : i < k := by omega
    have := cnF_pre (halfOf xs K) K (cnF (halfOf xs K) K [] (xs.take k)) (xs.drop k) i (by omega)
    rw [← e] at this
    have h4 : i < (canL xs K).length := by rw [canL_len]; omega
    rw [List.getElem_take]
    simpa [List.getD, h1, h4] using this.symm

theorem can_step {xs : List T4} {K : Int → Bool} (k : Nat) (hk : k < xs.length) {x : T4} (hx : xs.getD k zTerm = x) : (canL xs K).take (k + 1) = (canL xs K).take k ++ [cn1 (halfOf xs K) ((canL xs K).take k) (K k) x] := by
  rw [← can_take (by omega), ← can_take (by omega), takeTerm xs k hk, cnF_app, hx]
  simp only [cnF]
  have hl : (cnF (halfOf xs K) K [] (xs.take k)).length = k := by rw [cnF_len]; simp; omega
  rw [hl]

theorem can_at {xs : List T4} {K : Int → Bool} (h : Ahead xs) (k : Nat) (hk : k < xs.length) {x : T4} (hx : xs.getD k zTerm = x) : can xs K k = cn1 (halfOf xs K) (canL xs K) (K k) x := by
  have hl : ((canL xs K).take k).length = k := by rw [List.length_take, canL_len]; omega
  have e : can xs K k = cn1 (halfOf xs K) ((canL xs K).take k) (K k) x := by
    have h1 := can_step (K := K) k hk hx
    have h2 : ((canL xs K).take (k + 1)).getD k false = can xs K k := by
      unfold can
      simp only [List.getD]
      rw [List.getElem?_take_of_lt (by omega)]
    rw [← h2, h1]
    simp only [List.getD]
    rw [List.getElem?_append_right (by omega), hl]
    simp
  obtain ⟨pa, pb⟩ := h k hk
  rw [hx] at pa pb
  have tk : ∀ i : Int, 0 ≤ i → i < k → atB ((canL xs K).take k) i = atB (canL xs K) i := fun i h0 h1 => by
    unfold atB
    simp only [List.getD]
    rw [List.getElem?_take_of_lt (by omega)]
  rw [e]
  refine cn1_same (fun q => ?_) (fun q => ?_)
  · have := pa q; exact tk _ this.1 this.2
  · have := pb q; exact tk _ this.1 this.2

/-- What can be made, in words. -/
theorem can_iff {xs : List T4} {K : Int → Bool} (h : Ahead xs) (k : Nat) (hk : k < xs.length) {x : T4} (hx : xs.getD k zTerm = x) : can xs K k = true ↔
    K k = true ∨ x.o = 1 ∨ ((x.o = 3 ∨ x.o = 4 ∨ x.o = 5) ∧ can xs K x.a.toNat = true ∧ can xs K x.b.toNat = true) ∨ (x.o = 6 ∧ can xs K x.a.toNat = true) ∨
    (x.o = 7 ∧ ((can xs K x.a.toNat = true ∧ (can xs K x.b.toNat = true ∨ halfOf xs K x.b = true)) ∨ (can xs K x.b.toNat = true ∧ halfOf xs K x.a = true))) := by
  rw [can_at h k hk hx]
  unfold cn1
  have ea : atB (canL xs K) x.a = can xs K x.a.toNat := rfl
  have eb : atB (canL xs K) x.b = can xs K x.b.toNat := rfl
  rw [ea, eb]
  by_cases h1 : x.o = 1
  · simp [h1]
  · rw [if_neg h1]
    by_cases h3 : x.o = 3 ∨ x.o = 4 ∨ x.o = 5
    · rw [if_pos h3]
      have h6 : ¬ x.o = 6 := by omega
      have h7 : ¬ x.o = 7 := by omega
      simp [h1, h3, h6, h7]
    · rw [if_neg h3]
      by_cases h6 : x.o = 6
      · have h7 : ¬ x.o = 7 := by omega
        simp [h6]
      · rw [if_neg h6]
        by_cases h7 : x.o = 7
        · simp [h7]
        · rw [if_neg h7]
          simp [h1, h3, h6, h7]

theorem half_iff {xs : List T4} {K : Int → Bool} {j : Int} : halfOf xs K j = true ↔ ∃ i : Nat, i < xs.length ∧ (xs.getD i zTerm).o = 6 ∧ K i = true ∧ (xs.getD i zTerm).a = j := by
  unfold halfOf
  simp only [List.any_eq_true, List.mem_range, Bool.and_eq_true, beq_iff_eq]

theorem half_mono {xs : List T4} {K K' : Int → Bool} (h : ∀ i, K i = true → K' i = true) {j : Int} (hj : halfOf xs K j = true) : halfOf xs K' j = true := by
  rw [half_iff] at hj ⊢
  obtain ⟨i, h1, h2, h3, h4⟩ := hj
  exact ⟨i, h1, h2, h _ h3, h4⟩

/-- Who knows more makes no less. -/
theorem can_mono {xs : List T4} {K K' : Int → Bool} (hA : Ahead xs) (h : ∀ i, K i = true → K' i = true) : ∀ k, k < xs.length → can xs K k = true → can xs K' k = true := by
  intro k
  induction k using Nat.strongRecOn with
  | _ k ih =>
    intro hk hc
    obtain ⟨x, hx⟩ : ∃ x, xs.getD k zTerm = x := ⟨_, rfl⟩
    obtain ⟨pa, pb⟩ := hA k hk
    rw [can_iff hA k hk hx] at hc ⊢
    rw [hx] at pa pb
    have k3 := kids3
    have k4 := kids4
    have k5 := kids5
    have k6 := kids6
    have k7 := kids7
    have ia : 0 < kids x.o → can xs K x.a.toNat = true → can xs K' x.a.toNat = true := fun q => by
      have := pa q; exact ih _ (by omega) (by omega)
    have ib : 1 < kids x.o → can xs K x.b.toNat = true → can xs K' x.b.toNat = true := fun q => by
      have := pb q; exact ih _ (by omega) (by omega)
    rcases hc with hc | hc | ⟨ho, ca, cb⟩ | ⟨ho, ca⟩ | ⟨ho, hc⟩
    · exact .inl (h _ hc)
    · exact .inr (.inl hc)
    · have q : kids x.o = 2 := by rcases ho with e | e | e <;> rw [e] <;> assumption
      exact .inr (.inr (.inl ⟨ho, ia (by omega) ca, ib (by omega) cb⟩))
    · exact .inr (.inr (.inr (.inl ⟨ho, ia (by rw [ho, k6]; decide) ca⟩)))
    · have qa := ia (by rw [ho, k7]; decide)
      have qb := ib (by rw [ho, k7]; decide)
      refine .inr (.inr (.inr (.inr ⟨ho, ?_⟩)))
      rcases hc with ⟨ca, cb | hb⟩ | ⟨cb, ha⟩
      · exact .inl ⟨qa ca, .inl (qb cb)⟩
      · exact .inl ⟨qa ca, .inr (half_mono h hb)⟩
      · exact .inr ⟨qb cb, half_mono h ha⟩

theorem can_known {xs : List T4} {K : Int → Bool} (hA : Ahead xs) {k : Nat} (hk : k < xs.length) (h : K k = true) : can xs K k = true := (can_iff hA k hk rfl).2 (.inl h)

/-- What is known is open: the parts of pairs, and of seals of which the key can be made. -/
def Opened (xs : List T4) (K : Int → Bool) : Prop := ∀ i : Nat, i < xs.length → K i = true →
  ((xs.getD i zTerm).o = 3 → K (xs.getD i zTerm).a = true ∧ K (xs.getD i zTerm).b = true) ∧ ((xs.getD i zTerm).o = 5 → can xs K (xs.getD i zTerm).a.toNat = true → K (xs.getD i zTerm).b = true)

/-- In what is open a pair can be made just where both its parts can, and a seal that can be made gives what is in it to who can make its key. -/
theorem open_pair {xs : List T4} {K : Int → Bool} (hA : Ahead xs) (O : Opened xs K) {k : Nat} (hk : k < xs.length) {x : T4} (hx : xs.getD k zTerm = x) (h3 : x.o = 3) : can xs K k = true ↔ can xs K x.a.toNat = true ∧ can xs K x.b.toNat = true := by
  obtain ⟨pa, pb⟩ := hA k hk
  rw [hx, h3, kids3] at pa pb
  have pa := pa (by decide)
  have pb := pb (by decide)
  constructor
  · intro hc
    rw [can_iff hA k hk hx] at hc
    rcases hc with hc | hc | ⟨_, ca, cb⟩ | ⟨ho, _⟩ | ⟨ho, _⟩
    · have h1 := (O k hk hc).1
      rw [hx] at h1
      obtain ⟨e1, e2⟩ := h1 h3
      refine ⟨can_known hA (by omega) ?_, can_known hA (by omega) ?_⟩
      · rw [show ((x.a.toNat : Nat) : Int) = x.a by omega]; exact e1
      · rw [show ((x.b.toNat : Nat) : Int) = x.b by omega]; exact e2
    · omega
    · exact ⟨ca, cb⟩
    · omega
    · omega
  · intro ⟨ca, cb⟩
    rw [can_iff hA k hk hx]
    exact .inr (.inr (.inl ⟨.inl h3, ca, cb⟩))

theorem open_seal {xs : List T4} {K : Int → Bool} (hA : Ahead xs) (O : Opened xs K) {k : Nat} (hk : k < xs.length) {x : T4} (hx : xs.getD k zTerm = x) (h5 : x.o = 5) (ca : can xs K x.a.toNat = true) : can xs K k = true ↔ can xs K x.b.toNat = true := by
  obtain ⟨pa, pb⟩ := hA k hk
  rw [hx, h5, kids5] at pa pb
  have pb := pb (by decide)
  constructor
  · intro hc
    rw [can_iff hA k hk hx] at hc
    rcases hc with hc | hc | ⟨_, _, cb⟩ | ⟨ho, _⟩ | ⟨ho, _⟩
    · have h1 := (O k hk hc).2
      rw [hx] at h1
      refine can_known hA (by omega) ?_
      rw [show ((x.b.toNat : Nat) : Int) = x.b by omega]; exact h1 h5 ca
    · omega
    · exact cb
    · omega
    · omega
  · intro cb
    rw [can_iff hA k hk hx]
    exact .inr (.inr (.inl ⟨.inr (.inr h5), ca, cb⟩))

/-- All that can be made of what is open. -/
def der (xs : List T4) (K : Int → Bool) : Int → Bool := fun i => decide (0 ≤ i ∧ i < xs.length) && can xs K i.toNat

theorem der_nat {xs : List T4} {K : Int → Bool} {k : Nat} (hk : k < xs.length) : der xs K k = can xs K k := by
  unfold der
  rw [Int.toNat_natCast]
  have : decide (0 ≤ (k : Int) ∧ (k : Int) < xs.length) = true := by simp; omega
  rw [this]; simp

/-- What is derived brings nothing more. -/
theorem can_der {xs : List T4} {K : Int → Bool} (hA : Ahead xs) : ∀ k, k < xs.length → can xs (der xs K) k = true → can xs K k = true := by
  intro k
  induction k using Nat.strongRecOn with
  | _ k ih =>
    intro hk hc
    obtain ⟨x, hx⟩ : ∃ x, xs.getD k zTerm = x := ⟨_, rfl⟩
    obtain ⟨pa, pb⟩ := hA k hk
    have hc' := hc
    rw [can_iff hA k hk hx] at hc
    rw [hx] at pa pb
    have k6 := kids6
    have k7 := kids7
    have ia : 0 < kids x.o → can xs (der xs K) x.a.toNat = true → can xs K x.a.toNat = true := fun q => by
      have := pa q; exact ih _ (by omega) (by omega)
    have ib : 1 < kids x.o → can xs (der xs K) x.b.toNat = true → can xs K x.b.toNat = true := fun q => by
      have := pb q; exact ih _ (by omega) (by omega)
    -- a half of a secret that is derived is known, or the secret can be made
    have hh : ∀ j : Int, 0 ≤ j → j < k → halfOf xs (der xs K) j = true → halfOf xs K j = true ∨ can xs K j.toNat = true := by
      intro j h0 h1 h
      rw [half_iff] at h
      obtain ⟨i, hi, e6, hd, ea⟩ := h
      rw [der_nat hi, can_iff hA i hi rfl] at hd
      rcases hd with hd | hd | ⟨ho, _⟩ | ⟨_, ca⟩ | ⟨ho, _⟩
      · left; rw [half_iff]; exact ⟨i, hi, e6, hd, ea⟩
      · omega
      · omega
      · right; rw [← ea]; exact ca
      · omega
    rcases hc with hc | hc | ⟨ho, ca, cb⟩ | ⟨ho, ca⟩ | ⟨ho, hc⟩
    · rw [der_nat hk] at hc; exact hc
    · rw [can_iff hA k hk hx]; exact .inr (.inl hc)
    · have q : kids x.o = 2 := by
        rcases ho with e | e | e
        · rw [e]; exact kids3
        · rw [e]; exact kids4
        · rw [e]; exact kids5
      rw [can_iff hA k hk hx]
      exact .inr (.inr (.inl ⟨ho, ia (by omega) ca, ib (by omega) cb⟩))
    · rw [can_iff hA k hk hx]
      exact .inr (.inr (.inr (.inl ⟨ho, ia (by rw [ho, k6]; decide) ca⟩)))
    · have qa := ia (by rw [ho, k7]; decide)
      have qb := ib (by rw [ho, k7]; decide)
      have pa := pa (by rw [ho, k7]; decide)
      have pb := pb (by rw [ho, k7]; decide)
      rw [can_iff hA k hk hx]
      refine .inr (.inr (.inr (.inr ⟨ho, ?_⟩)))
      rcases hc with ⟨ca, cb | hb⟩ | ⟨cb, ha⟩
      · exact .inl ⟨qa ca, .inl (qb cb)⟩
      · rcases hh x.b pb.1 pb.2 hb with h | h
        · exact .inl ⟨qa ca, .inr h⟩
        · exact .inl ⟨qa ca, .inl h⟩
      · rcases hh x.a pa.1 pa.2 ha with h | h
        · exact .inr ⟨qb cb, h⟩
        · exact .inl ⟨h, .inl (qb cb)⟩

theorem der_open {xs : List T4} {K : Int → Bool} (hA : Ahead xs) (O : Opened xs K) : Opened xs (der xs K) := by
  intro i hi hd
  rw [der_nat hi] at hd
  obtain ⟨pa, pb⟩ := hA i hi
  refine ⟨fun h3 => ?_, fun h5 hc => ?_⟩
  · rw [h3, kids3] at pa pb
    have pa := pa (by decide)
    have pb := pb (by decide)
    have := (open_pair hA O hi rfl h3).1 hd
    refine ⟨?_, ?_⟩
    · have e := der_nat (xs := xs) (K := K) (k := (xs.getD i zTerm).a.toNat) (by omega)
      rw [show (((xs.getD i zTerm).a.toNat : Nat) : Int) = (xs.getD i zTerm).a by omega] at e
      rw [e]; exact this.1
    · have e := der_nat (xs := xs) (K := K) (k := (xs.getD i zTerm).b.toNat) (by omega)
      rw [show (((xs.getD i zTerm).b.toNat : Nat) : Int) = (xs.getD i zTerm).b by omega] at e
      rw [e]; exact this.2
  · rw [h5, kids5] at pa pb
    have pa := pa (by decide)
    have pb := pb (by decide)
    have ca := can_der hA _ (by omega) hc
    have := (open_seal hA O hi rfl h5 ca).1 hd
    have e := der_nat (xs := xs) (K := K) (k := (xs.getD i zTerm).b.toNat) (by omega)
    rw [show (((xs.getD i zTerm).b.toNat : Nat) : Int) = (xs.getD i zTerm).b by omega] at e
    rw [e]; exact this

abbrev Rising (l : List Int) : Prop := l.Pairwise (fun x y => x < y)

/-- A number put into a rising list. -/
@[irreducible] def rise (l : List Int) (v : Int) : List Int := if v ∈ l then l else l.filter (fun x => decide (x < v)) ++ v :: l.filter (fun x => decide (v < x))

theorem rise_in {l : List Int} {v : Int} (h : v ∈ l) : rise l v = l := by unfold rise; rw [if_pos h]

theorem rise_mem {l : List Int} {v x : Int} : x ∈ rise l v ↔ x = v ∨ x ∈ l := by
  unfold rise
  by_cases h : v ∈ l
  · rw [if_pos h]
    constructor
    · exact .inr
    · rintro (rfl | h1)
      · exact h
      · exact h1
  · rw [if_neg h, List.mem_append, List.mem_cons, List.mem_filter, List.mem_filter]
    constructor
    · rintro (⟨h1, _⟩ | rfl | ⟨h1, _⟩)
      · exact .inr h1
      · exact .inl rfl
      · exact .inr h1
    · rintro (rfl | h1)
      · exact .inr (.inl rfl)
      · rcases Int.lt_trichotomy x v with h2 | h2 | h2
        · exact .inl ⟨h1, by simpa using h2⟩
        · exact absurd (h2 ▸ h1) h
        · exact .inr (.inr ⟨h1, by simpa using h2⟩)

theorem rise_rising {l : List Int} {v : Int} (h : Rising l) : Rising (rise l v) := by
  unfold rise
  split
  · exact h
  · rw [Rising, List.pairwise_append]
    refine ⟨h.filter _, ?_, ?_⟩
    · rw [List.pairwise_cons]
      refine ⟨fun y hy => ?_, h.filter _⟩
      have := (List.mem_filter.1 hy).2
      simpa using this
    · intro a ha b hb
      have h1 : a < v := by simpa using (List.mem_filter.1 ha).2
      rcases List.mem_cons.1 hb with rfl | hb
      · exact h1
      · have h2 : v < b := by simpa using (List.mem_filter.1 hb).2
        omega

theorem nodup_sub_int : ∀ (xs ys : List Int), xs.Nodup → (∀ x ∈ xs, x ∈ ys) → xs.length ≤ ys.length
  | [], _, _, _ => Nat.zero_le _
  | x :: xs, ys, hd, h => by
    obtain ⟨h1, h2⟩ := List.nodup_cons.1 hd
    have hx := h x (by simp)
    have h3 := List.length_erase_of_mem hx
    have h4 := nodup_sub_int xs (ys.erase x) h2 (fun y hy => (List.mem_erase_of_ne (fun e => by subst e; exact h1 hy)).2 (h y (by simp [hy])))
    have : 0 < ys.length := List.length_pos_of_mem hx
    simp only [List.length_cons]; omega

theorem Rising.nodup {l : List Int} (h : Rising l) : l.Nodup := h.imp (fun h => by omega)

theorem rising_full {xs ys : List Int} (hx : Rising xs) (hy : Rising ys) (h : ∀ z ∈ xs, z ∈ ys) (hl : ys.length ≤ xs.length) : xs = ys := by
  refine rising_eq xs ys hx hy (fun z => ⟨h z, fun hz => ?_⟩)
  by_cases hm : z ∈ xs
  · exact hm
  · have := nodup_sub_int (z :: xs) ys (List.nodup_cons.2 ⟨hm, hx.nodup⟩) (fun w hw => by
      rcases List.mem_cons.1 hw with rfl | hw
      · exact hz
      · exact h w hw)
    simp at this; omega

/-- What a known term gives, in a round in which C tells what can be made. -/
@[irreducible] def gives (xs : List T4) (C : Int → Bool) (nx : List Int) (i : Int) : List Int :=
  if (tmAt xs i).o = 3 then rise (rise nx (tmAt xs i).a) (tmAt xs i).b
  else if (tmAt xs i).o = 5 ∧ C (tmAt xs i).a = true then rise nx (tmAt xs i).b
  else nx

/-- A number comes of a known term. -/
def Comes (xs : List T4) (C : Int → Bool) (i x : Int) : Prop :=
  ((tmAt xs i).o = 3 ∧ (x = (tmAt xs i).a ∨ x = (tmAt xs i).b)) ∨ ((tmAt xs i).o = 5 ∧ C (tmAt xs i).a = true ∧ x = (tmAt xs i).b)

theorem gives_mem {xs : List T4} {C : Int → Bool} {nx : List Int} {i x : Int} : x ∈ gives xs C nx i ↔ x ∈ nx ∨ Comes xs C i x := by
  unfold gives Comes
  by_cases h3 : (tmAt xs i).o = 3
  · rw [if_pos h3, rise_mem, rise_mem]
    have h5 : ¬ (tmAt xs i).o = 5 := by omega
    simp only [h3, true_and]
    constructor
    · rintro (h | h | h)
      · exact .inr (.inl (.inr h))
      · exact .inr (.inl (.inl h))
      · exact .inl h
    · rintro (h | (h | h) | ⟨h, _⟩)
      · exact .inr (.inr h)
      · exact .inr (.inl h)
      · exact .inl h
      · omega
  · rw [if_neg h3]
    by_cases h5 : (tmAt xs i).o = 5 ∧ C (tmAt xs i).a = true
    · rw [if_pos h5, rise_mem]
      constructor
      · rintro (h | h)
        · exact .inr (.inr ⟨h5.1, h5.2, h⟩)
        · exact .inl h
      · rintro (h | ⟨h, _⟩ | ⟨_, _, h⟩)
        · exact .inr h
        · exact absurd h h3
        · exact .inl h
    · rw [if_neg h5]
      constructor
      · exact .inl
      · rintro (h | ⟨h, _⟩ | ⟨h1, h2, _⟩)
        · exact h
        · exact absurd h h3
        · exact absurd ⟨h1, h2⟩ h5

theorem gives_rising {xs : List T4} {C : Int → Bool} {nx : List Int} {i : Int} (h : Rising nx) : Rising (gives xs C nx i) := by
  unfold gives
  split
  · exact rise_rising (rise_rising h)
  · split
    · exact rise_rising h
    · exact h

theorem round_mem {xs : List T4} {C : Int → Bool} : ∀ (zs nx : List Int) {x : Int}, x ∈ zs.foldl (gives xs C) nx ↔ x ∈ nx ∨ ∃ i ∈ zs, Comes xs C i x
  | [], nx, x => by simp
  | z :: zs, nx, x => by
    rw [List.foldl_cons, round_mem zs, gives_mem]
    simp only [List.mem_cons]
    constructor
    · rintro ((h | h) | ⟨i, h1, h2⟩)
      · exact .inl h
      · exact .inr ⟨z, .inl rfl, h⟩
      · exact .inr ⟨i, .inr h1, h2⟩
    · rintro (h | ⟨i, rfl | h1, h2⟩)
      · exact .inl (.inl h)
      · exact .inl (.inr h2)
      · exact .inr ⟨i, h1, h2⟩

theorem round_rising {xs : List T4} {C : Int → Bool} : ∀ (zs nx : List Int), Rising nx → Rising (zs.foldl (gives xs C) nx)
  | [], _, h => h
  | _ :: zs, _, h => round_rising zs _ (gives_rising h)

/-- A list as what is known. -/
def isIn (l : List Int) : Int → Bool := fun i => decide (i ∈ l)

theorem isIn_iff {l : List Int} {i : Int} : isIn l i = true ↔ i ∈ l := by unfold isIn; simp

/-- What is told of a place by a list of flags. -/
def canI (xs : List T4) (K : Int → Bool) (i : Int) : Bool := atB (canL xs K) i

theorem canI_nat (xs : List T4) (K : Int → Bool) (i : Nat) : canI xs K i = can xs K i := by unfold canI can atB; rw [Int.toNat_natCast]

/-- One round. -/
def roundL (xs : List T4) (out : List Int) : List Int := out.foldl (gives xs (canI xs (isIn out))) out

/-- A list that is on its way from what was known to what is open. -/
structure OnWay (xs : List T4) (kn out : List Int) : Prop where
  rising : Rising out
  places : ∀ z ∈ out, 0 ≤ z ∧ z < xs.length
  has : ∀ z ∈ kn, z ∈ out
  least : ∀ K, Opened xs K → (∀ z ∈ kn, K z = true) → ∀ z ∈ out, K z = true

theorem OnWay.len {xs : List T4} {kn out : List Int} (h : OnWay xs kn out) : out.length ≤ xs.length := nodup_len xs.length out h.rising.nodup h.places

theorem OnWay.start {xs : List T4} {kn : List Int} (h : Rising kn) (hp : ∀ z ∈ kn, 0 ≤ z ∧ z < xs.length) : OnWay xs kn kn := ⟨h, hp, fun _ h => h, fun _ _ hk => hk⟩

/-- What comes of a known term is a place, and is known wherever the term is known and all is open. -/
theorem comes_in {xs : List T4} (hA : Ahead xs) {K : Int → Bool} {i x : Int} (hi : 0 ≤ i ∧ i < xs.length) (h : Comes xs (canI xs K) i x) : (0 ≤ x ∧ x < xs.length) ∧ ∀ K', Opened xs K' → (∀ z, K z = true → K' z = true) → K' i = true → K' x = true := by
  obtain ⟨k, rfl⟩ := Int.eq_ofNat_of_zero_le hi.1
  have hk : k < xs.length := by omega
  obtain ⟨pa, pb⟩ := hA k hk
  unfold Comes tmAt at h
  rw [Int.toNat_natCast] at h
  rcases h with ⟨h3, h⟩ | ⟨h5, hc, rfl⟩
  · rw [h3, kids3] at pa pb
    have pa := pa (by decide)
    have pb := pb (by decide)
    refine ⟨by rcases h with rfl | rfl <;> omega, fun K' O hs hk' => ?_⟩
    obtain ⟨e1, e2⟩ := (O k hk hk').1 h3
    rcases h with rfl | rfl
    · exact e1
    · exact e2
  · rw [h5, kids5] at pa pb
    have pa := pa (by decide)
    have pb := pb (by decide)
    refine ⟨by omega, fun K' O hs hk' => (O k hk hk').2 h5 (can_mono hA hs _ (by omega) ?_)⟩
    exact hc

theorem OnWay.part {xs : List T4} (hA : Ahead xs) {kn out : List Int} (h : OnWay xs kn out) {zs nx : List Int} (hz : ∀ z ∈ zs, z ∈ out) (hn : Rising nx) (hm : ∀ x, x ∈ nx ↔ x ∈ out ∨ ∃ i ∈ zs, Comes xs (canI xs (isIn out)) i x) : OnWay xs kn nx := by
  refine ⟨hn, fun z hz2 => ?_, fun z hz2 => (hm z).2 (.inl (h.has z hz2)), fun K O hk z hz2 => ?_⟩
  · rcases (hm z).1 hz2 with h1 | ⟨i, h1, h2⟩
    · exact h.places z h1
    · exact (comes_in hA (h.places i (hz i h1)) h2).1
  · rcases (hm z).1 hz2 with h1 | ⟨i, h1, h2⟩
    · exact h.least K O hk z h1
    · exact (comes_in hA (h.places i (hz i h1)) h2).2 K O (fun w hw => h.least K O hk w (isIn_iff.1 hw)) (h.least K O hk i (hz i h1))

theorem OnWay.next {xs : List T4} (hA : Ahead xs) {kn out : List Int} (h : OnWay xs kn out) : OnWay xs kn (roundL xs out) :=
  h.part hA (zs := out) (fun _ h => h) (round_rising out out h.rising) (fun _ => round_mem out out)

/-- Where a round brings nothing all is open. -/
theorem OnWay.done {xs : List T4} {kn out : List Int} (h : OnWay xs kn out) (hl : (roundL xs out).length = out.length) : Opened xs (isIn out) := by
  have e : out = roundL xs out := rising_full h.rising (round_rising out out h.rising) (fun z hz => (round_mem out out).2 (.inl hz)) (by omega)
  have key : ∀ i ∈ out, ∀ x, Comes xs (canI xs (isIn out)) i x → x ∈ out := fun i hi x hx => by
    have : x ∈ roundL xs out := (round_mem out out).2 (.inr ⟨i, hi, hx⟩)
    rwa [← e] at this
  intro i hi hk
  have hm := isIn_iff.1 hk
  have et : tmAt xs (i : Int) = xs.getD i zTerm := by unfold tmAt; rw [Int.toNat_natCast]
  refine ⟨fun h3 => ⟨isIn_iff.2 (key _ hm _ ?_), isIn_iff.2 (key _ hm _ ?_)⟩, fun h5 hc => isIn_iff.2 (key _ hm _ ?_)⟩
  · exact .inl ⟨by rw [et]; exact h3, .inl (by rw [et])⟩
  · exact .inl ⟨by rw [et]; exact h3, .inr (by rw [et])⟩
  · exact .inr ⟨by rw [et]; exact h5, by rw [et]; exact hc, by rw [et]⟩

theorem roundL_len {xs : List T4} {out : List Int} (h : Rising out) : out.length ≤ (roundL xs out).length :=
  nodup_sub_int _ _ h.nodup (fun _ hz => (round_mem out out).2 (.inl hz))

/-- What is open of what is known. -/
structure IsOpen (xs : List T4) (kn s : List Int) : Prop where
  way : OnWay xs kn s
  open_ : Opened xs (isIn s)

theorem IsOpen.same {xs : List T4} {kn s s' : List Int} (h : IsOpen xs kn s) (h' : IsOpen xs kn s') : s = s' :=
  rising_eq s s' h.way.rising h'.way.rising fun z => ⟨fun hz => isIn_iff.1 (h.way.least _ h'.open_ (fun w hw => isIn_iff.2 (h'.way.has w hw)) z hz), fun hz => isIn_iff.1 (h'.way.least _ h.open_ (fun w hw => isIn_iff.2 (h.way.has w hw)) z hz)⟩

/-- What is open is open already. -/
theorem IsOpen.again {xs : List T4} {kn s : List Int} (h : IsOpen xs kn s) : IsOpen xs s s := ⟨OnWay.start h.way.rising h.way.places, h.open_⟩

theorem IsOpen.more {xs : List T4} {kn kn' s s' : List Int} (h : IsOpen xs kn s) (h' : IsOpen xs kn' s') (hk : ∀ z ∈ kn, z ∈ kn') : ∀ z ∈ s, z ∈ s' :=
  fun z hz => isIn_iff.1 (h.way.least _ h'.open_ (fun w hw => isIn_iff.2 (h'.way.has w (hk w hw))) z hz)

/-- The rounds. -/
def rounds (xs : List T4) : Nat → List Int → List Int
  | 0, out => out
  | f + 1, out => if (roundL xs out).length = out.length then out else rounds xs f (roundL xs out)

@[irreducible] def openL (xs : List T4) (kn : List Int) : List Int := rounds xs (xs.length + 1) kn

theorem rounds_open {xs : List T4} (hA : Ahead xs) {kn : List Int} : ∀ (f : Nat) (out : List Int), OnWay xs kn out → xs.length < out.length + f → IsOpen xs kn (rounds xs f out)
  | 0, out, h, hf => by have := h.len; omega
  | f + 1, out, h, hf => by
    rw [rounds]
    split
    · rename_i hl; exact ⟨h, h.done hl⟩
    · rename_i hl
      have := roundL_len (xs := xs) h.rising
      exact rounds_open hA f _ (h.next hA) (by omega)

theorem openL_open {xs : List T4} (hA : Ahead xs) {kn : List Int} (h : Rising kn) (hp : ∀ z ∈ kn, 0 ≤ z ∧ z < xs.length) : IsOpen xs kn (openL xs kn) := by
  unfold openL
  exact rounds_open hA _ _ (OnWay.start h hp) (by omega)

theorem openL_is {xs : List T4} (hA : Ahead xs) {kn s : List Int} (h : Rising kn) (hp : ∀ z ∈ kn, 0 ≤ z ∧ z < xs.length) (hs : IsOpen xs kn s) : s = openL xs kn := hs.same (openL_open hA h hp)

theorem openL_again {xs : List T4} (hA : Ahead xs) {kn : List Int} (h : Rising kn) (hp : ∀ z ∈ kn, 0 ≤ z ∧ z < xs.length) : openL xs (openL xs kn) = openL xs kn := by
  have h1 := openL_open hA h hp
  exact (openL_is hA h1.way.rising h1.way.places h1.again).symm

/-- What follows from what is known. -/
@[irreducible] def drv (xs : List T4) (kn : List Int) : Int → Bool := der xs (isIn (openL xs kn))

/-- Who knows more derives no less. -/
theorem drv_more {xs : List T4} (hA : Ahead xs) {kn kn' : List Int} (h : Rising kn) (hp : ∀ z ∈ kn, 0 ≤ z ∧ z < xs.length) (h' : Rising kn') (hp' : ∀ z ∈ kn', 0 ≤ z ∧ z < xs.length) (hk : ∀ z ∈ kn, z ∈ kn') {k : Nat} (hl : k < xs.length) (hd : drv xs kn k = true) : drv xs kn' k = true := by
  unfold drv at *
  rw [der_nat hl] at *
  exact can_mono hA (fun i hi => isIn_iff.2 ((openL_open hA h hp).more (openL_open hA h' hp') hk i (isIn_iff.1 hi))) k hl hd

/-- What is derived already brings nothing. -/
theorem drv_same {xs : List T4} (hA : Ahead xs) {kn kn' : List Int} (h : Rising kn) (hp : ∀ z ∈ kn, 0 ≤ z ∧ z < xs.length) (h' : Rising kn') (hp' : ∀ z ∈ kn', 0 ≤ z ∧ z < xs.length) (hk : ∀ z ∈ kn', drv xs kn z = true) {k : Nat} (hl : k < xs.length) (hd : drv xs kn' k = true) : drv xs kn k = true := by
  have O := (openL_open hA h hp).open_
  have O' := openL_open hA h' hp'
  unfold drv at *
  have O2 := der_open hA O
  rw [der_nat hl] at *
  refine can_der hA k hl (can_mono hA (fun i hi => ?_) k hl hd)
  exact O'.way.least _ O2 hk i (isIn_iff.1 hi)

theorem drv_known {xs : List T4} (hA : Ahead xs) {kn : List Int} {k : Nat} (hl : k < xs.length) (hk : (k : Int) ∈ openL xs kn) : drv xs kn k = true := by
  unfold drv
  rw [der_nat hl]
  exact can_known hA hl (isIn_iff.2 hk)
end

section
open Go.RowKit

/-- A place that is marked. -/
def flg (L : List Bool) (i : Int) : Bool := decide (0 ≤ i) && L.getD i.toNat false

theorem flg_nat (L : List Bool) (i : Nat) : flg L (i : Int) = L.getD i false := by unfold flg; simp

theorem flg_in {L : List Bool} {i : Int} (h : flg L i = true) : 0 ≤ i ∧ i < L.length := by
  unfold flg at h
  simp only [Bool.and_eq_true, decide_eq_true_eq] at h
  refine ⟨h.1, ?_⟩
  by_cases hl : i.toNat < L.length
  · omega
  · have := h.2
    rw [List.getD_eq_getElem?_getD, List.getElem?_eq_none (by omega)] at this
    simp at this

/-- The places that are marked, rising. -/
@[irreducible] def plcs (L : List Bool) : List Int := ((List.range L.length).filter fun i => L.getD i false).map fun (i : Nat) => (i : Int)

theorem plcs_mem {L : List Bool} {z : Int} : z ∈ plcs L ↔ flg L z = true := by
  unfold plcs
  simp only [List.mem_map, List.mem_filter, List.mem_range]
  constructor
  · rintro ⟨i, ⟨_, h2⟩, rfl⟩
    rw [flg_nat]; exact h2
  · intro h
    obtain ⟨h0, h1⟩ := flg_in h
    refine ⟨z.toNat, ⟨by omega, ?_⟩, by omega⟩
    unfold flg at h
    simp only [Bool.and_eq_true] at h
    exact h.2

theorem plcs_rising (L : List Bool) : Rising (plcs L) := by
  unfold plcs
  rw [Rising, List.pairwise_map]
  exact (List.pairwise_lt_range.filter _).imp (fun h => by omega)

theorem plcs_len (L : List Bool) : (plcs L).length ≤ L.length := nodup_len L.length _ (plcs_rising L).nodup fun _ hz => flg_in (plcs_mem.1 hz)

theorem isIn_plcs (L : List Bool) : isIn (plcs L) = flg L := by
  funext i
  unfold isIn
  by_cases h : flg L i = true
  · rw [h]; simp [plcs_mem, h]
  · rw [Bool.not_eq_true] at h; rw [h]; simp [plcs_mem, h]

/-- Marks of a list. -/
@[irreducible] def mrk (n : Nat) (l : List Int) : List Bool := (List.range n).map fun (i : Nat) => decide ((i : Int) ∈ l)

theorem mrk_len (n : Nat) (l : List Int) : (mrk n l).length = n := by unfold mrk; simp

theorem mrk_at {n : Nat} {l : List Int} {i : Nat} (h : i < n) : (mrk n l).getD i false = decide ((i : Int) ∈ l) := by unfold mrk; simp [List.getD, h]

theorem mrk_nil (n : Nat) : mrk n [] = List.replicate n false := by
  unfold mrk
  apply List.ext_getElem
  · simp
  · intro i h1 h2; simp

theorem mrk_snoc {n : Nat} {l : List Int} {j : Nat} (_h : j < n) : mrk n (l ++ [(j : Int)]) = (mrk n l).set j true := by
  apply List.ext_getElem
  · rw [List.length_set, mrk_len, mrk_len]
  · intro i h1 h2
    have h3 : i < n := by rw [mrk_len] at h1; exact h1
    rw [List.getElem_set]
    unfold mrk
    simp only [List.getElem_map, List.getElem_range]
    by_cases e : j = i
    · subst e; simp
    · rw [if_neg e]
      have : ¬ (i : Int) = (j : Int) := by omega
      simp [this]

theorem mrk_flg {n : Nat} {l : List Int} (h : ∀ z ∈ l, 0 ≤ z ∧ z < n) (z : Int) : flg (mrk n l) z = true ↔ z ∈ l := by
  constructor
  · intro hf
    obtain ⟨h0, h1⟩ := flg_in hf
    rw [mrk_len] at h1
    obtain ⟨k, rfl⟩ := Int.eq_ofNat_of_zero_le h0
    rw [flg_nat, mrk_at (by omega)] at hf
    simpa using hf
  · intro hz
    obtain ⟨h0, h1⟩ := h z hz
    obtain ⟨k, rfl⟩ := Int.eq_ofNat_of_zero_le h0
    rw [flg_nat, mrk_at (by omega)]
    simpa using hz

theorem mrk_plcs {n : Nat} {l : List Int} (hr : Rising l) (h : ∀ z ∈ l, 0 ≤ z ∧ z < n) : plcs (mrk n l) = l :=
  rising_eq _ _ (plcs_rising _) hr fun z => by rw [plcs_mem]; exact mrk_flg h z

theorem mrk_isIn {n : Nat} {l : List Int} (h : ∀ z ∈ l, 0 ≤ z ∧ z < n) : flg (mrk n l) = isIn l := by
  funext z
  have := mrk_flg h z
  unfold isIn
  by_cases hz : z ∈ l
  · rw [this.2 hz]; simp [hz]
  · have h2 : flg (mrk n l) z = false := by rw [← Bool.not_eq_true]; exact fun h => hz (this.1 h)
    rw [h2]; simp [hz]

theorem flg_set {L : List Bool} {j : Nat} (hj : j < L.length) (z : Int) : flg (L.set j true) z = true ↔ z = j ∨ flg L z = true := by
  unfold flg
  simp only [Bool.and_eq_true, decide_eq_true_eq]
  by_cases h0 : 0 ≤ z
  · obtain ⟨k, rfl⟩ := Int.eq_ofNat_of_zero_le h0
    rw [Int.toNat_natCast]
    by_cases e : j = k
    · subst e
      simp [List.getD, hj]
    · have : ¬ (k : Int) = (j : Int) := by omega
      simp only [List.getD, List.getElem?_set_ne e]
      simp [this]
  · constructor
    · intro h; exact absurd h.1 h0
    · rintro (h | h)
      · omega
      · exact absurd h.1 h0

/-! what is known: its fault -/

/-- The fault of what is known, from a place on. -/
def knF (n : Int) : Bool → Int → List Int → Int
  | _, _, [] => 0
  | hs, p, x :: r => if ¬ (0 ≤ x ∧ x < n) then 3 else if hs = true ∧ x ≤ p then 1 else knF n true x r

def knK (n : Int) (kn : List Int) (k : Nat) : Int := knF n (decide (0 < k)) (kn.getD (k - 1) 0) (kn.drop k)

theorem dropInt (l : List Int) (k : Nat) (h : k < l.length) : l.drop k = l.getD k 0 :: l.drop (k + 1) := by
  rw [List.drop_eq_getElem_cons h]
  simp [List.getD, h]

theorem knK_step {n : Int} {kn : List Int} {k : Nat} (h : k < kn.length) {x : Int} (hx : kn.getD k 0 = x) : knK n kn k = if ¬ (0 ≤ x ∧ x < n) then 3 else if 0 < k ∧ x ≤ kn.getD (k - 1) 0 then 1 else knK n kn (k + 1) := by
  unfold knK
  rw [dropInt kn k h, knF, hx]
  rw [Nat.add_sub_cancel, hx]
  simp

theorem knK_end {n : Int} {kn : List Int} {k : Nat} (h : kn.length ≤ k) : knK n kn k = 0 := by
  unfold knK; rw [List.drop_of_length_le h]; rfl

/-- The fault of a table and of what is known. -/
@[irreducible] def knC (xs : List T4) (kn : List Int) : Int := if tfC xs ≠ 0 then tfC xs else if 400 < kn.length then 2 else knK xs.length kn 0

theorem knK_zero {n : Int} {kn : List Int} : ∀ k, knK n kn k = 0 → ∀ i, k ≤ i → i < kn.length → (0 ≤ kn.getD i 0 ∧ kn.getD i 0 < n) ∧ (0 < i → kn.getD (i - 1) 0 < kn.getD i 0) := by
  intro k h i hk hi
  induction hm : i - k generalizing k with
  | zero =>
    obtain rfl : k = i := by omega
    rw [knK_step hi rfl] at h
    split at h
    · omega
    · rename_i h1
      split at h
      · omega
      · rename_i h2
        exact ⟨by simpa using h1, fun h0 => by
          by_cases h3 : kn.getD (k - 1) 0 < kn.getD k 0
          · exact h3
          · exact absurd ⟨h0, by omega⟩ h2⟩
  | succ m ih =>
    rw [knK_step (by omega) rfl] at h
    split at h
    · omega
    · split at h
      · omega
      · exact ih (k + 1) h (by omega) (by omega)

theorem steps_rising : ∀ (l : List Int), (∀ i, 0 < i → i < l.length → l.getD (i - 1) 0 < l.getD i 0) → Rising l
  | [], _ => List.Pairwise.nil
  | [x], _ => by simp [Rising]
  | x :: y :: r, h => by
    have ih := steps_rising (y :: r) fun i h0 hi => by
      have := h (i + 1) (by omega) (by simpa using hi)
      rw [Nat.add_sub_cancel] at this
      obtain ⟨j, rfl⟩ : ∃ j, i = j + 1 := ⟨i - 1, by omega⟩
      simpa using this
    have h1 : x < y := by simpa using h 1 (by omega) (by simp)
    rw [Rising, List.pairwise_cons]
    refine ⟨fun z hz => ?_, ih⟩
    rcases List.mem_cons.1 hz with rfl | hz
    · exact h1
    · have := (List.pairwise_cons.1 ih).1 z hz
      omega

theorem knC_zero {xs : List T4} {kn : List Int} (h : knC xs kn = 0) : tfC xs = 0 ∧ kn.length ≤ 400 ∧ (∀ z ∈ kn, 0 ≤ z ∧ z < xs.length) ∧ Rising kn := by
  unfold knC at h
  split at h
  · rename_i h1; exact absurd h h1
  · rename_i h1
    split at h
    · omega
    · rename_i h2
      have h1 : tfC xs = 0 := by simpa using h1
      refine ⟨h1, by omega, fun z hz => ?_, steps_rising kn fun i h0 hi => (knK_zero 0 h i (by omega) hi).2 h0⟩
      obtain ⟨i, hi, rfl⟩ := List.getElem_of_mem hz
      have := (knK_zero 0 h i (by omega) hi).1
      simpa [List.getD, hi] using this

theorem rising_at {l : List Int} (h : Rising l) {i j : Nat} (hij : i < j) (hj : j < l.length) : l.getD i 0 < l.getD j 0 := by
  have := List.pairwise_iff_getElem.1 h i j (by omega) hj hij
  have hi : i < l.length := by omega
  simpa [List.getD, hi, hj] using this

theorem knK_ok {n : Int} {kn : List Int} (hp : ∀ z ∈ kn, 0 ≤ z ∧ z < n) (hr : Rising kn) : ∀ (m k : Nat), kn.length - k = m → knK n kn k = 0 := by
  intro m
  induction m with
  | zero => intro k hk; exact knK_end (by omega)
  | succ m ih =>
    intro k hk
    rw [knK_step (by omega) rfl, if_neg (by have := hp _ (igetD_mem (l := kn) (k := k) (by omega)); omega), if_neg ?_]
    · exact ih (k + 1) (by omega)
    · rintro ⟨h0, h1⟩
      have := rising_at hr (i := k - 1) (j := k) (by omega) (by omega)
      omega

theorem knC_ok {xs : List T4} {kn : List Int} (h : tfC xs = 0) (hp : ∀ z ∈ kn, 0 ≤ z ∧ z < xs.length) (hr : Rising kn) : knC xs kn = 0 := by
  have h1 := (tfC_zero h).1
  have h2 := nodup_len xs.length kn hr.nodup hp
  unfold knC
  rw [if_neg (by simp [h]), if_neg (by omega)]
  exact knK_ok hp hr _ _ rfl

/-! what can be made, by the program and by the model -/

theorem halfOf_congr {xs : List T4} {K K' : Int → Bool} (h : ∀ i : Nat, i < xs.length → K i = K' i) (j : Int) : halfOf xs K j = halfOf xs K' j := by
  have e : ∀ {K K' : Int → Bool}, (∀ i : Nat, i < xs.length → K i = K' i) → halfOf xs K j = true → halfOf xs K' j = true := by
    intro K K' h hh
    rw [half_iff] at *
    obtain ⟨i, h1, h2, h3, h4⟩ := hh
    exact ⟨i, h1, h2, by rw [← h i h1]; exact h3, h4⟩
  rw [Bool.eq_iff_iff]
  exact ⟨e h, e fun i hi => (h i hi).symm⟩

/-- What is asked of the program's half. -/
@[irreducible] def hlf (xs : List T4) (M : List Bool) (j : Int) : Bool := decide (⟨6, j, 0, 0⟩ ∈ xs) && M.getD (tmIdx xs ⟨6, j, 0, 0⟩) false

theorem once_at {xs : List T4} (h : tfC xs = 0) {k : Nat} (hk : k < xs.length) {t : T4} (ht : xs.getD k zTerm = t) : t ∈ xs ∧ tmIdx xs t = k := by
  have hm : t ∈ xs := by rw [← ht]; simp [List.getD, hk]
  refine ⟨hm, ?_⟩
  have := idx_once (xs := xs) (fun k hk => ((tfC_zero h).2 k hk).2) hk
  rw [ht] at this
  exact this


theorem half_bare {xs : List T4} (h : tfC xs = 0) {k : Nat} (hk : k < xs.length) (ho : (xs.getD k zTerm).o = 6) : xs.getD k zTerm = ⟨6, (xs.getD k zTerm).a, 0, 0⟩ := by
  have hz := tm_zero ((tfC_zero h).2 k hk).1
  have k6 := kids6
  obtain ⟨_, _, h1, _, h2, _⟩ := hz
  generalize xs.getD k zTerm = x at *
  have e1 := (h1 (by rw [ho, k6]; decide)).1
  have e2 := h2 (by rw [ho, k6]; decide)
  cases x
  simp only at *
  subst ho e1 e2
  rfl

theorem hlf_half {xs : List T4} (h : tfC xs = 0) (M : List Bool) (j : Int) : hlf xs M j = halfOf xs (flg M) j := by
  rw [Bool.eq_iff_iff, half_iff]
  unfold hlf
  rw [Bool.and_eq_true, decide_eq_true_eq]
  constructor
  · rintro ⟨hm, hf⟩
    refine ⟨tmIdx xs ⟨6, j, 0, 0⟩, tmIdx_lt hm, ?_, ?_, ?_⟩
    · rw [tmIdx_at hm]
    · rw [flg_nat]; exact hf
    · rw [tmIdx_at hm]
  · rintro ⟨i, hi, ho, hf, ha⟩
    have e := half_bare h hi ho
    rw [ha] at e
    obtain ⟨hm, hx⟩ := once_at h hi e
    refine ⟨hm, ?_⟩
    rw [hx, ← flg_nat]; exact hf

/-- What the program asks of a term, of what can be made ahead of it. -/
@[irreducible] def comes (H : Int → Bool) (L : List Bool) (t : T4) : Bool :=
  if t.o = 1 then true
  else if t.o = 2 then false
  else if t.o = 6 then atB L t.a
  else if t.o = 7 then (atB L t.a && (atB L t.b || H t.b)) || (atB L t.b && (atB L t.a || H t.a))
  else atB L t.a && atB L t.b

theorem cn1_comes {H : Int → Bool} {L : List Bool} {kn : Bool} {t : T4} (h1 : 1 ≤ t.o) (h7 : t.o ≤ 7) : cn1 H L kn t = (kn || comes H L t) := by
  unfold cn1 comes
  by_cases e1 : t.o = 1
  · simp [e1]
  by_cases e2 : t.o = 2
  · simp [e2]
  by_cases e6 : t.o = 6
  · simp [e6]
  by_cases e7 : t.o = 7
  · simp only [e7]
    cases atB L t.a <;> cases atB L t.b <;> cases H t.a <;> cases H t.b <;> cases kn <;> rfl
  have : t.o = 3 ∨ t.o = 4 ∨ t.o = 5 := by omega
  rw [if_neg e1, if_pos this, if_neg e1, if_neg e2, if_neg e6, if_neg e7]

/-- The row of what can be made, the first k made. -/
@[irreducible] def mkA (xs : List T4) (M : List Bool) (k : Nat) : List Bool := (canL xs (flg M)).take k ++ List.replicate (xs.length - k) false

/-- .. of the model. -/
@[irreducible] def mkM (xs : List T4) (M : List Bool) (k : Nat) : List Bool := (canL xs (flg M)).take k ++ M.drop k

theorem mkA_len {xs : List T4} (M : List Bool) {k : Nat} (h : k ≤ xs.length) : (mkA xs M k).length = xs.length := by
  unfold mkA; rw [List.length_append, List.length_take, canL_len, List.length_replicate]; omega

theorem mkM_len {xs : List T4} {M : List Bool} (hm : M.length = xs.length) {k : Nat} (h : k ≤ xs.length) : (mkM xs M k).length = xs.length := by
  unfold mkM; rw [List.length_append, List.length_take, canL_len, List.length_drop]; omega

theorem mkA_zero (xs : List T4) (M : List Bool) : mkA xs M 0 = List.replicate xs.length false := by unfold mkA; simp

theorem mkM_zero (xs : List T4) (M : List Bool) : mkM xs M 0 = M := by unfold mkM; simp

theorem mkA_end (xs : List T4) (M : List Bool) : mkA xs M xs.length = canL xs (flg M) := by
  unfold mkA; rw [Nat.sub_self, List.replicate_zero, List.append_nil, ← canL_len xs (flg M), List.take_length]

theorem mkM_end {xs : List T4} {M : List Bool} (hm : M.length = xs.length) : mkM xs M xs.length = canL xs (flg M) := by
  unfold mkM
  rw [← hm, List.drop_length, List.append_nil, hm]
  rw [show (canL xs (flg M)).take xs.length = canL xs (flg M) from by rw [← canL_len xs (flg M), List.take_length]]

theorem mkA_lo {xs : List T4} {M : List Bool} {k : Nat} (hk : k ≤ xs.length) {i : Int} (h0 : 0 ≤ i) (h : i < k) : atB (mkA xs M k) i = atB (canL xs (flg M)) i := by
  unfold mkA atB
  simp only [List.getD]
  rw [List.getElem?_append_left (by rw [List.length_take, canL_len]; omega), List.getElem?_take_of_lt (by omega)]

theorem mkM_lo {xs : List T4} {M : List Bool} {k : Nat} (hk : k ≤ xs.length) {i : Int} (h0 : 0 ≤ i) (h : i < k) : atB (mkM xs M k) i = atB (canL xs (flg M)) i := by
  unfold mkM atB
  simp only [List.getD]
  rw [List.getElem?_append_left (by rw [List.length_take, canL_len]; omega), List.getElem?_take_of_lt (by omega)]

theorem can_stepF {xs : List T4} (h : tfC xs = 0) (M : List Bool) {k : Nat} (hk : k < xs.length) {x : T4} (hx : xs.getD k zTerm = x) {L : List Bool} (hL : ∀ i : Int, 0 ≤ i → i < k → atB L i = atB (canL xs (flg M)) i) :
    (canL xs (flg M)).take (k + 1) = (canL xs (flg M)).take k ++ [cn1 (halfOf xs (flg M)) L (M.getD k false) x] := by
  rw [can_step k hk hx, flg_nat]
  obtain ⟨pa, pb⟩ := tfC_ahead h k hk
  rw [hx] at pa pb
  have tk : ∀ i : Int, 0 ≤ i → i < k → atB ((canL xs (flg M)).take k) i = atB L i := fun i h0 h1 => by
    rw [hL i h0 h1]
    unfold atB
    simp only [List.getD]
    rw [List.getElem?_take_of_lt (by omega)]
  congr 2
  exact cn1_same (fun q => tk _ (pa q).1 (pa q).2) (fun q => tk _ (pb q).1 (pb q).2)

theorem op_in {xs : List T4} (h : tfC xs = 0) {k : Nat} (hk : k < xs.length) {x : T4} (hx : xs.getD k zTerm = x) : 1 ≤ x.o ∧ x.o ≤ 7 := by
  have := (tm_zero ((tfC_zero h).2 k hk).1).1
  rwa [hx] at this

theorem mkA_step {xs : List T4} (h : tfC xs = 0) {M : List Bool} {k : Nat} (hk : k < xs.length) {x : T4} (hx : xs.getD k zTerm = x) :
    mkA xs M (k + 1) = (mkA xs M k).set k (M.getD k false || comes (hlf xs M) (mkA xs M k) x) := by
  have hs := can_stepF h M hk hx (L := mkA xs M k) (fun i h0 h1 => mkA_lo (by omega) h0 h1)
  rw [show halfOf xs (flg M) = hlf xs M from by funext j; exact (hlf_half h M j).symm] at hs
  obtain ⟨h1, h7⟩ := op_in h hk hx
  rw [cn1_comes h1 h7] at hs
  generalize (M.getD k false || comes (hlf xs M) (mkA xs M k) x) = v at *
  unfold mkA
  have hl : ((canL xs (flg M)).take k).length = k := by rw [List.length_take, canL_len]; omega
  rw [hs, List.set_append_right _ _ (by omega), hl, Nat.sub_self]
  rw [show xs.length - k = (xs.length - (k + 1)) + 1 from by omega, List.replicate_succ, List.set_cons_zero]
  simp

theorem mkM_at {xs : List T4} {M : List Bool} {k : Nat} (hk : k ≤ xs.length) : (mkM xs M k).getD k false = M.getD k false := by
  have hl : ((canL xs (flg M)).take k).length = k := by rw [List.length_take, canL_len]; omega
  unfold mkM
  simp only [List.getD]
  rw [List.getElem?_append_right (by omega), hl, Nat.sub_self, List.getElem?_drop, Nat.add_zero]

theorem mkM_step {xs : List T4} (h : tfC xs = 0) {M : List Bool} (hm : M.length = xs.length) {k : Nat} (hk : k < xs.length) {x : T4} (hx : xs.getD k zTerm = x) :
    mkM xs M (k + 1) = (mkM xs M k).set k (cn1 (halfOf xs (flg M)) (mkM xs M k) ((mkM xs M k).getD k false) x) := by
  have hs := can_stepF h M hk hx (L := mkM xs M k) (fun i h0 h1 => mkM_lo (by omega) h0 h1)
  rw [mkM_at (by omega)]
  generalize cn1 (halfOf xs (flg M)) (mkM xs M k) (M.getD k false) x = v at *
  unfold mkM
  have hl : ((canL xs (flg M)).take k).length = k := by rw [List.length_take, canL_len]; omega
  rw [hs, List.set_append_right _ _ (by omega), hl, Nat.sub_self]
  rw [List.drop_eq_getElem_cons (show k < M.length by omega), List.set_cons_zero]
  simp

theorem mkM_same {xs : List T4} {M : List Bool} (hm : M.length = xs.length) {k : Nat} (hk : k < xs.length) (hs : mkM xs M (k + 1) = (mkM xs M k).set k ((mkM xs M k).getD k false)) : mkM xs M (k + 1) = mkM xs M k := by
  rw [hs]
  have hl := mkM_len hm (k := k) (by omega)
  apply List.ext_getElem
  · rw [List.length_set]
  · intro i h1 h2
    rw [List.getElem_set]
    split
    · rename_i e; subst e; simp [List.getD, h2]
    · rfl

/-! the halves, by the model -/

/-- The halves of the first k. -/
@[irreducible] def hfK (xs : List T4) (M : List Bool) (k : Nat) : List Bool := (List.range xs.length).map fun (j : Nat) => (List.range k).any fun i => (xs.getD i zTerm).o == 6 && (M.getD i false && (xs.getD i zTerm).a == (j : Int))

theorem hfK_len (xs : List T4) (M : List Bool) (k : Nat) : (hfK xs M k).length = xs.length := by unfold hfK; simp

theorem hfK_zero (xs : List T4) (M : List Bool) : hfK xs M 0 = List.replicate xs.length false := by
  unfold hfK
  apply List.ext_getElem
  · simp
  · intro i h1 h2; simp

theorem hfK_yes {xs : List T4} {M : List Bool} {k : Nat} {x : T4} (hx : xs.getD k zTerm = x) (ho : x.o = 6) (hf : M.getD k false = true) {a : Nat} (ha : x.a = (a : Int)) : hfK xs M (k + 1) = (hfK xs M k).set a true := by
  unfold hfK
  apply List.ext_getElem
  · simp
  · intro i h1 h2
    rw [List.getElem_set]
    simp only [List.getElem_map, List.getElem_range, List.range_succ, List.any_append, List.any_cons, List.any_nil]
    rw [hx, ho, hf, ha]
    by_cases e : a = i
    · subst e; simp
    · rw [if_neg e]
      have : ((a : Int) == (i : Int)) = false := by simp; omega
      simp [this]

theorem hfK_no {xs : List T4} {M : List Bool} {k : Nat} {x : T4} (hx : xs.getD k zTerm = x) (h : ¬ (x.o = 6 ∧ M.getD k false = true)) : hfK xs M (k + 1) = hfK xs M k := by
  unfold hfK
  apply List.ext_getElem
  · simp
  · intro i h1 h2
    simp only [List.getElem_map, List.getElem_range, List.range_succ, List.any_append, List.any_cons, List.any_nil]
    rw [hx]
    have : ((x.o == 6) && (M.getD k false && x.a == (i : Int))) = false := by
      cases hf : M.getD k false with
      | false => simp
      | true =>
        have : ¬ x.o = 6 := fun e => h ⟨e, hf⟩
        simp [this]
    rw [this]; simp

theorem hfK_end {xs : List T4} {M : List Bool} {j : Int} (h0 : 0 ≤ j) (h1 : j < xs.length) : atB (hfK xs M xs.length) j = halfOf xs (flg M) j := by
  obtain ⟨k, rfl⟩ := Int.eq_ofNat_of_zero_le h0
  have hk : k < xs.length := by omega
  unfold hfK atB halfOf
  rw [Int.toNat_natCast]
  simp only [List.getD, List.getElem?_map, List.getElem?_range hk, Option.map_some, Option.getD_some]
  congr 1

theorem cn1_half {H H' : Int → Bool} {L : List Bool} {kn : Bool} {t : T4} (ha : 0 < kids t.o → H t.a = H' t.a) (hb : 1 < kids t.o → H t.b = H' t.b) : cn1 H L kn t = cn1 H' L kn t := by
  unfold cn1
  by_cases e7 : t.o = 7
  · have k7 := kids7
    rw [ha (by rw [e7, k7]; decide), hb (by rw [e7, k7]; decide)]
  · rw [if_neg (c := t.o = 7) e7, if_neg (c := t.o = 7) e7]

/-! what lies open, by the program -/

/-- A place that lies open, whatever way all is opened. -/
def Lst (xs : List T4) (kn : List Int) (x : Int) : Prop := (0 ≤ x ∧ x < xs.length) ∧ ∀ K, Opened xs K → (∀ z ∈ kn, K z = true) → K x = true

/-- Marks on their way from what was known to what is open. -/
structure Way (xs : List T4) (kn : List Int) (M : List Bool) : Prop where
  len : M.length = xs.length
  least : ∀ z, flg M z = true → Lst xs kn z
  has : ∀ z ∈ kn, flg M z = true

theorem Way.start {xs : List T4} {kn : List Int} (hp : ∀ z ∈ kn, 0 ≤ z ∧ z < xs.length) : Way xs kn (mrk xs.length kn) :=
  ⟨mrk_len _ _, fun z hz => by
    have hm := (mrk_flg hp z).1 hz
    exact ⟨hp z hm, fun _ _ hk => hk z hm⟩, fun z hz => (mrk_flg hp z).2 hz⟩

theorem Way.set {xs : List T4} {kn : List Int} {M : List Bool} (h : Way xs kn M) {j : Nat} (hj : Lst xs kn j) : Way xs kn (M.set j true) := by
  have hl : j < M.length := by have := hj.1; rw [h.len]; omega
  refine ⟨by rw [List.length_set, h.len], fun z hz => ?_, fun z hz => (flg_set hl z).2 (.inr (h.has z hz))⟩
  rcases (flg_set hl z).1 hz with rfl | hz
  · exact hj
  · exact h.least z hz

theorem Way.on {xs : List T4} {kn : List Int} {M : List Bool} (h : Way xs kn M) : OnWay xs kn (plcs M) :=
  ⟨plcs_rising M, fun z hz => (h.least z (plcs_mem.1 hz)).1, fun z hz => plcs_mem.2 (h.has z hz), fun K O hk z hz => (h.least z (plcs_mem.1 hz)).2 K O hk⟩

/-- The parts that a term tells to who can make what C says. -/
@[irreducible] def told (C : List Bool) (t : T4) : List Int := if t.o = 3 then [t.a, t.b] else if t.o = 5 ∧ atB C t.a = true then [t.b] else []

theorem told_comes {xs : List T4} {M : List Bool} {i z : Int} : z ∈ told (canL xs (flg M)) (tmAt xs i) ↔ Comes xs (canI xs (flg M)) i z := by
  unfold told Comes
  have e : ∀ j, canI xs (flg M) j = atB (canL xs (flg M)) j := fun _ => rfl
  by_cases h3 : (tmAt xs i).o = 3
  · have h5 : ¬ (tmAt xs i).o = 5 := by omega
    rw [if_pos h3]; simp [h3]
  · rw [if_neg h3]
    by_cases h5 : (tmAt xs i).o = 5 ∧ atB (canL xs (flg M)) (tmAt xs i).a = true
    · rw [if_pos h5, e]; simp [h5.1, h5.2]
    · rw [if_neg h5, e]
      simp only [List.not_mem_nil, h3, false_and, false_or, false_iff]
      rintro ⟨h1, h2, _⟩
      exact h5 ⟨h1, h2⟩

theorem told_lst {xs : List T4} {kn : List Int} (hA : Ahead xs) {M : List Bool} (h : Way xs kn M) {i z : Int} (hi : Lst xs kn i) (hz : z ∈ told (canL xs (flg M)) (tmAt xs i)) : Lst xs kn z := by
  have := comes_in hA hi.1 (told_comes.1 hz)
  exact ⟨this.1, fun K O hk => this.2 K O (fun w hw => (h.least w hw).2 K O hk) (hi.2 K O hk)⟩

/-- Where nothing came of what lies open all is open. -/
theorem Way.done {xs : List T4} {kn : List Int} {M : List Bool} (h : Way xs kn M) (hd : ∀ i, flg M i = true → ∀ z ∈ told (canL xs (flg M)) (tmAt xs i), flg M z = true) : IsOpen xs kn (plcs M) := by
  refine ⟨h.on, ?_⟩
  rw [isIn_plcs]
  intro i hi hk
  have et : tmAt xs (i : Int) = xs.getD i zTerm := by unfold tmAt; rw [Int.toNat_natCast]
  have key := hd i hk
  rw [← et]
  refine ⟨fun h3 => ⟨key _ ?_, key _ ?_⟩, fun h5 hc => key _ ?_⟩
  · rw [told_comes]; exact .inl ⟨h3, .inl rfl⟩
  · rw [told_comes]; exact .inl ⟨h3, .inr rfl⟩
  · rw [told_comes]; exact .inr ⟨h5, hc, rfl⟩

/-- How many places are not marked. -/
def left (M : List Bool) : Nat := (List.range M.length).countP fun i => !M.getD i false

theorem left_set {M : List Bool} {j : Nat} (hj : j < M.length) (h : M.getD j false = false) : left (M.set j true) < left M := by
  unfold left
  rw [List.length_set]
  have hp : ∀ (n : Nat), (∀ i, i < n → ((!(M.set j true).getD i false) = true → (!M.getD i false) = true)) := fun n i _ hi => by
    by_cases e : j = i
    · subst e; simp [List.getD, hj] at hi
    · simpa [List.getD, List.getElem?_set_ne e] using hi
  have mono : ∀ (l : List Nat), (l.countP fun i => !(M.set j true).getD i false) ≤ l.countP fun i => !M.getD i false := fun l =>
    List.countP_mono_left fun i _ hi => hp (i + 1) i (by omega) hi
  have strict : ∀ (l : List Nat), j ∈ l → (l.countP fun i => !(M.set j true).getD i false) < l.countP fun i => !M.getD i false := by
    intro l hm
    induction l with
    | nil => simp at hm
    | cons y l ih =>
      rw [List.countP_cons, List.countP_cons]
      rcases List.mem_cons.1 hm with rfl | hm
      · have := mono l
        have e1 : (!(M.set j true).getD j false) = false := by simp [List.getD, hj]
        rw [e1, h]; simp only [Bool.not_false, Bool.false_eq_true, if_false, if_true]; omega
      · have := ih hm
        by_cases hy : (!(M.set j true).getD y false) = true
        · have h2 := hp (y + 1) y (by omega) hy
          rw [hy, h2]; simp only [if_true]; omega
        · rw [Bool.not_eq_true] at hy
          rw [hy]
          simp only [Bool.false_eq_true, if_false]
          have := ih hm
          split <;> omega
  exact strict _ (List.mem_range.2 hj)

/-- A number put into a rising list, by its place. -/
theorem rise_here {l : List Int} {p : Nat} (hp : p < l.length) {v : Int} (hv : l.getD p 0 = v) : rise l v = l := rise_in (by rw [← hv]; exact igetD_mem hp)

theorem rise_at {l : List Int} (h : Rising l) {p : Nat} (hp : p ≤ l.length) {v : Int} (hlo : ∀ i, i < p → l.getD i 0 < v) (hhi : p < l.length → v < l.getD p 0) : rise l v = l.take p ++ v :: l.drop p := by
  have hd : ∀ x ∈ l.take p, x < v := fun x hx => by
    obtain ⟨i, hi, rfl⟩ := List.getElem_of_mem hx
    rw [List.length_take] at hi
    have := hlo i (by omega)
    rw [List.getElem_take]
    simpa [List.getD, show i < l.length by omega] using this
  have hu : ∀ x ∈ l.drop p, v < x := fun x hx => by
    obtain ⟨i, hi, rfl⟩ := List.getElem_of_mem hx
    rw [List.length_drop] at hi
    rw [List.getElem_drop]
    have h1 := hhi (by omega)
    have h2 : l.getD p 0 ≤ l.getD (p + i) 0 := by
      by_cases e : i = 0
      · subst e; simp
      · have := rising_at h (i := p) (j := p + i) (by omega) (by omega); omega
    have h3 : l.getD (p + i) 0 = l[p + i] := by simp [List.getD, show p + i < l.length by omega]
    omega
  refine rising_eq _ _ (rise_rising h) ?_ fun z => ?_
  · rw [List.pairwise_append]
    refine ⟨h.sublist (List.take_sublist _ _), ?_, ?_⟩
    · rw [List.pairwise_cons]; exact ⟨fun y hy => hu y hy, h.sublist (List.drop_sublist _ _)⟩
    · intro a ha b hb
      have h1 := hd a ha
      rcases List.mem_cons.1 hb with rfl | hb
      · exact h1
      · have := hu b hb; omega
  · rw [rise_mem, List.mem_append, List.mem_cons]
    have : z ∈ l ↔ z ∈ l.take p ∨ z ∈ l.drop p := by rw [← List.mem_append, List.take_append_drop]
    rw [this]
    constructor
    · rintro (h | h | h)
      · exact .inr (.inl h)
      · exact .inl h
      · exact .inr (.inr h)
    · rintro (h | h | h)
      · exact .inr (.inl h)
      · exact .inl h
      · exact .inr (.inr h)

/-- A round, as far as the first k. -/
@[irreducible] def rnd (xs : List T4) (out : List Int) (k : Nat) : List Int := (out.take k).foldl (gives xs (canI xs (isIn out))) out

theorem rnd_zero (xs : List T4) (out : List Int) : rnd xs out 0 = out := by unfold rnd; simp

theorem rnd_end (xs : List T4) (out : List Int) : rnd xs out out.length = roundL xs out := by unfold rnd roundL; rw [List.take_length]

theorem rnd_step {xs : List T4} {out : List Int} {k : Nat} (hk : k < out.length) {i : Int} (hi : out.getD k 0 = i) : rnd xs out (k + 1) = gives xs (canI xs (isIn out)) (rnd xs out k) i := by
  unfold rnd
  rw [take_snoc out k hk, List.foldl_append, hi]; rfl

theorem rnd_way {xs : List T4} (hA : Ahead xs) {kn out : List Int} (h : OnWay xs kn out) (k : Nat) : OnWay xs kn (rnd xs out k) := by
  unfold rnd
  exact h.part hA (zs := out.take k) (fun z hz => List.mem_of_mem_take hz) (round_rising _ _ h.rising) (fun x => by rw [round_mem])

/-- What may be put. -/
theorem Way.lst {xs : List T4} {kn : List Int} {M : List Bool} (h : Way xs kn M) {i : Nat} (hi : M.getD i false = true) : Lst xs kn i := h.least _ (by rw [flg_nat]; exact hi)
end

end Go.Proofs.Ythkmoabkeblbjaa

/- A row of marks; what is known of a book of terms. What somebody can make of a term: the program's small functions. What is known of a table; what can be made: the program. -/
namespace Go.Proofs.Ythkmoabkeblbjaa
section
open Go.RowKit

theorem Try.infoMark : (Try.prog.info? 4).map (fun i => (i.zero, i.size, i.bytes)) = some (some (.bool false), 1, 1) := by kernel_rfl

/-- A row of marks of its own. -/
def Fl (w : World) (base Q n : Nat) (M : List Bool) : Prop := M.length = n ∧ w.ownsRow base 4 1 (.slice (some ⟨Q, 0, none⟩) n n) n (M.map Value.bool)

theorem Fl.lt {w : World} {base Q n : Nat} {M : List Bool} (h : Fl w base Q n M) : base ≤ Q ∧ Q < w.heap.size := World.ownsRow.lt h.2 Q (by simp [Value.ownBlock])

theorem Fl.cell {w : World} {base Q n : Nat} {M : List Bool} (h : Fl w base Q n M) {j : Nat} (hj : j < n) : w.cell? ⟨Q, j, none⟩ = some (.bool (M.getD j false)) := by
  rw [World.ownsRow.cellAt h.2 j (by omega)]
  have hl := h.1
  simp [List.getD, show j < M.length by omega]

theorem Fl.frozen {w : World} {base Q n : Nat} {M : List Bool} (h : Fl w base Q n M) (j : Nat) : w.frozen? ⟨Q, j, none⟩ = false := World.ownsRow.frozenAt h.2 j

theorem Fl.kept {w w' : World} {base Q n : Nat} {M : List Bool} (h : Fl w base Q n M) (hb : Below w.heap.size w w') : Fl w' base Q n M := ⟨h.1, World.ownsRow.kept h.2 (Below.grownBy hb none) (.inr (by simp [Value.ownBlock]))⟩

theorem Fl.sm {X : Nat → Prop} {w w' : World} {base Q n : Nat} {M : List Bool} (h : Fl w base Q n M) (s : Sm X w w') (hx : ¬ X Q) : Fl w' base Q n M :=
  ⟨h.1, ownsRow_sm h.2 s (fun k e => by simp [Value.ownBlock] at e; subst e; exact hx)⟩

theorem Fl.mono {w : World} {base base' Q n : Nat} {M : List Bool} (h : Fl w base Q n M) (hb : base' ≤ base) : Fl w base' Q n M := by
  refine ⟨h.1, ?_⟩
  rcases h.2 with ⟨h1, h2⟩
  refine ⟨h1, ?_⟩
  rcases h2 with h2 | ⟨g, cap, cur, e, h3, r⟩
  · exact .inl h2
  · exact .inr ⟨g, cap, cur, e, by omega, r⟩

theorem Fl.set {w : World} {base Q n : Nat} {M : List Bool} (h : Fl w base Q n M) (j : Nat) (b : Bool) : Fl (w.setCell ⟨Q, j, none⟩ (.bool b)) base Q n (M.set j b) := by
  refine ⟨by rw [List.length_set]; exact h.1, ?_⟩
  have := (World.ownsRow.stored h.2 j (.bool b)).1
  rw [List.map_set]
  exact this

theorem Fl.other {w : World} {base Q n : Nat} {M : List Bool} (h : Fl w base Q n M) {p : Addr} (hp : p.block ≠ Q) (v : Value) : Fl (w.setCell p v) base Q n M := h.sm (X := fun k => k = p.block) (Sm.cell (X := fun k => k = p.block) rfl v) (fun e => hp e.symm)

/-- Marks that are made. -/
theorem Fl.made {w : World} {base Q n : Nat} (h : w.ownsRow base 4 1 (.slice (some ⟨Q, 0, none⟩) n n) n (List.replicate n (Value.bool false))) : Fl w base Q n (List.replicate n false) := ⟨by simp, by simpa using h⟩

/-- Somebody's knowledge of a book: block kb; its marks lie in block Q. -/
structure Kn (w : World) (base kb p g : Nat) (c : Option Addr) (d Q : Nat) (xs : List T4) (M : List Bool) : Prop where
  bk : Bk w base p g c d xs
  v : V w kb [.pointer (some ⟨p, 0, none⟩), .slice (some ⟨Q, 0, none⟩) xs.length xs.length]
  f : Fl w base Q xs.length M
  bb : base ≤ kb
  kx : ¬ BkX p g c kb
  qx : ¬ BkX p g c Q
  ne : Q ≠ kb

theorem Kn.kept {w w' : World} {base kb p g : Nat} {c : Option Addr} {d Q : Nat} {xs : List T4} {M : List Bool} (h : Kn w base kb p g c d Q xs M) (hb : Below w.heap.size w w') : Kn w' base kb p g c d Q xs M :=
  ⟨h.bk.kept hb, h.v.kept hb, h.f.kept hb, h.bb, h.kx, h.qx, h.ne⟩

/-- A mark more. -/
theorem Kn.set {w : World} {base kb p g : Nat} {c : Option Addr} {d Q : Nat} {xs : List T4} {M : List Bool} (h : Kn w base kb p g c d Q xs M) (j : Nat) (b : Bool) : Kn (w.setCell ⟨Q, j, none⟩ (.bool b)) base kb p g c d Q xs (M.set j b) :=
  have s : Sm (fun k => k = Q) w (w.setCell ⟨Q, j, none⟩ (.bool b))   := Sm.cell (X := fun k => k = Q) rfl _
  ⟨h.bk.sm s (fun k e => by subst e; exact h.qx), h.v.sm s (fun e => h.ne e.symm), h.f.set j b, h.bb, h.kx, h.qx, h.ne⟩

theorem Kn.sm {X : Nat → Prop} {w w' : World} {base kb p g : Nat} {c : Option Addr} {d Q : Nat} {xs : List T4} {M : List Bool} (h : Kn w base kb p g c d Q xs M) (s : Sm X w w') (hx : ∀ k, X k → w.heap.size ≤ k) : Kn w' base kb p g c d Q xs M :=
  ⟨h.bk.sm s (fun k hk e => by have := (h.bk.lt k e).2; have := hx k hk; omega), h.v.sm s (fun e => by have := h.v.1; have := hx _ e; omega), h.f.sm s (fun e => by have := h.f.lt.2; have := hx _ e; omega), h.bb, h.kx, h.qx, h.ne⟩

theorem okT_half {j : Int} (h0 : -1000 ≤ j) (h1 : j ≤ 1000) : okT ⟨6, j, 0, 0⟩ :=
  ⟨okI_of (by simp only; omega) (by simp only; omega), okI_of (by simp only; omega) (by simp only; omega), okI_of (by simp only; omega) (by simp only; omega), okI_of (by simp only; omega) (by simp only; omega)⟩
end

section
open Go.RowKit

theorem flg_btw {M : List Bool} {q : Int} (h : btw q 0 ((M.length : Int) - 1) = false) : flg M q = false := by
  cases hf : flg M q with
  | false => rfl
  | true =>
    have := flg_in hf
    rw [show btw q 0 ((M.length : Int) - 1) = true from btw_iff.2 (by omega)] at h
    cases h

set_option maxHeartbeats 1000000 in
theorem has_ok (base Q n : Nat) (M : List Bool) (q : Int) (w : World) (h : Fl w base Q n M) (hn : n ≤ 1000) :
    Calls Try.prog 83 #[.slice (some ⟨Q, 0, none⟩) n n, .int .i64 q] w fun e w' => e = .returned (.bool (flg M q)) ∧ w' = w := by
  have CI := Hid.mk (isBetween_ok q 0 ((n : Int) - 1))
  have hl := h.1
  cases hb : btw q 0 ((n : Int) - 1)
  · have hr : flg M q = false := flg_btw (by rw [hl]; exact hb)
    rw [hr]
    rw [hb] at CI
    clear hb hr
    go_enter Try.func83, Try.ntmps83
    go_wp2_with fail
    refine (CI.out _).mono ?_
    rintro e w1 ⟨rfl, rfl⟩
    go_wp2
    go_ret
    exact ⟨rfl, rfl⟩
  · obtain ⟨h0, h1⟩ := btw_iff.1 hb
    obtain ⟨j, rfl⟩ := Int.eq_ofNat_of_zero_le h0
    have hj : j < n := by omega
    have p0 := h.cell hj
    have hr : flg M j = M.getD j false := flg_nat M j
    rw [hr]
    rw [hb] at CI
    have hj1 : (j : Int) < (n : Int) := by omega
    clear hb hr h1
    generalize M.getD j false = v at *
    go_enter Try.func83, Try.ntmps83
    go_wp2_with fail
    refine (CI.out _).mono ?_
    rintro e w1 ⟨rfl, rfl⟩
    go_wp2
    go_ret
    exact ⟨rfl, rfl⟩

theorem hlf_no {xs : List T4} {M : List Bool} {j : Int} (h : (⟨6, j, 0, 0⟩ : T4) ∉ xs) : hlf xs M j = false := by unfold hlf; simp [h]

theorem hlf_yes {xs : List T4} {M : List Bool} {j : Int} (h : (⟨6, j, 0, 0⟩ : T4) ∈ xs) : hlf xs M j = M.getD (tmIdx xs ⟨6, j, 0, 0⟩) false := by unfold hlf; simp [h]

theorem build_half (j : Int) (w : World) : (Instr.build 36 #[(0, .int .i64 6), (1, .int .i64 j)]).run Try.prog w = .ok (.agg #[.int .i64 6, .int .i64 j, .int .i64 0, .int .i64 0]) w := run_build w 36 _ _ (by kernel_rfl)

/-- What hasHalf asks. -/
theorem lk_half {w : World} {base kb p g : Nat} {c : Option Addr} {d Q : Nat} {xs : List T4} {M : List Bool} (H : Kn w base kb p g c d Q xs M) {j : Nat} (hj : j ≤ 1000) (n : Nat) :
    (Instr.lookup 93 (.map (some g)) (.agg #[.int .i64 6, .int .i64 (j : Int), .int .i64 0, .int .i64 0]) true).run Try.prog (w.drewN n) = .ok (.tuple #[.int .i64 ((tmM xs ⟨6, j, 0, 0⟩).getD 0), .bool (tmM xs ⟨6, j, 0, 0⟩).isSome]) (w.drewN n) :=
  H.bk.m.look (okT_half (j := (j : Int)) (by omega) (by omega)) n

set_option maxRecDepth 20000 in
set_option maxHeartbeats 2000000 in
theorem hasHalf_ok (base kb p g : Nat) (c : Option Addr) (d Q m base2 Q2 : Nat) (xs : List T4) (M L : List Bool) (j : Nat) (w : World) (H : Kn w base kb p g c d Q xs M) (hm : xs.length = m) (hL : Fl w base2 Q2 m L) (hn : m ≤ 400) (hj : j < m) :
    Calls Try.prog 132 #[.pointer (some ⟨kb, 0, none⟩), .int .i64 j, .slice (some ⟨Q2, 0, none⟩) m m] w fun e w' => e = .returned (.bool (L.getD j false || hlf xs M j)) ∧ Below w.heap.size w w' := by
  have VK := H.v
  have VP := H.bk.v
  have q1 := build_half
  have LK := lk_half H (j := j) (by omega) 0
  rw [show w.drewN 0 = w from rfl] at LK
  have hj1 : (j : Int) < (m : Int) := by omega
  have hF := H.f
  rw [hm] at VK VP hF
  by_cases hx : (⟨6, (j : Int), 0, 0⟩ : T4) ∈ xs
  · have HM : tmM xs ⟨6, j, 0, 0⟩ = some ((tmIdx xs ⟨6, j, 0, 0⟩ : Nat) : Int) := by unfold tmM; rw [if_pos hx]
    rw [HM] at LK
    have hi := tmIdx_lt hx
    rw [hlf_yes hx]
    generalize tmIdx xs ⟨6, j, 0, 0⟩ = i at *
    have hi1 : (i : Int) < (m : Int) := by omega
    have hi2 : i < m := by omega
    simp only [Option.getD_some, Option.isSome_some] at LK
    clear hx HM hi H hm hn
    obtain ⟨s_VK, f_VK, z_VK⟩ := VK.open
    obtain ⟨s_VP, f_VP, z_VP⟩ := VP.open
    have p9 := hL.cell hj
    have p8 := hF.cell hi2
    clear hF hL VK VP hi2 hj
    generalize M.getD i false = v1 at *
    generalize L.getD j false = v2 at *
    cases v2
    all_goals
      go_enter Try.func132, Try.ntmps132
      go_wp2
      go_ret
      exact ⟨ret_bool (by simp), Below.refl _ _⟩
  · have HM : tmM xs ⟨6, j, 0, 0⟩ = none := by unfold tmM; rw [if_neg hx]
    rw [HM] at LK
    rw [hlf_no hx]
    simp only [Option.getD_none, Option.isSome_none] at LK
    clear hx HM hF H hm hn
    obtain ⟨s_VK, f_VK, z_VK⟩ := VK.open
    obtain ⟨s_VP, f_VP, z_VP⟩ := VP.open
    have p9 := hL.cell hj
    clear hL VK VP hj
    generalize L.getD j false = v2 at *
    cases v2
    all_goals
      go_enter Try.func132, Try.ntmps132
      go_wp2
      go_ret
      exact ⟨ret_bool (by simp), Below.refl _ _⟩

theorem atB_nat (L : List Bool) (j : Nat) : atB L (j : Int) = L.getD j false := by unfold atB; rw [Int.toNat_natCast]

theorem comes_1 (H : Int → Bool) (L : List Bool) {t : T4} (h : t.o = 1) : comes H L t = true := by unfold comes; rw [if_pos h]

theorem comes_2 (H : Int → Bool) (L : List Bool) {t : T4} (h : t.o = 2) : comes H L t = false := by unfold comes; simp [h]

theorem comes_6 (H : Int → Bool) (L : List Bool) {t : T4} (h : t.o = 6) : comes H L t = atB L t.a := by unfold comes; simp [h]

theorem comes_7 (H : Int → Bool) (L : List Bool) {t : T4} (h : t.o = 7) : comes H L t = ((atB L t.a && (atB L t.b || H t.b)) || (atB L t.b && (atB L t.a || H t.a))) := by unfold comes; simp [h]

theorem comes_3 (H : Int → Bool) (L : List Bool) {t : T4} (h : t.o = 3 ∨ t.o = 4 ∨ t.o = 5) : comes H L t = (atB L t.a && atB L t.b) := by
  unfold comes
  rw [if_neg (by omega), if_neg (by omega), if_neg (by omega), if_neg (by omega)]

set_option maxRecDepth 20000 in
set_option maxHeartbeats 4000000 in
theorem comesOf_ok (base kb p g : Nat) (c : Option Addr) (d Q m base2 Q2 : Nat) (xs : List T4) (M L : List Bool) (t : T4) (w : World) (H : Kn w base kb p g c d Q xs M) (hm : xs.length = m) (hL : Fl w base2 Q2 m L) (hn : m ≤ 400)
    (ho : 1 ≤ t.o ∧ t.o ≤ 7) (pa : 0 < kids t.o → 0 ≤ t.a ∧ t.a < m) (pb : 1 < kids t.o → 0 ≤ t.b ∧ t.b < m) :
    Calls Try.prog 126 #[.pointer (some ⟨kb, 0, none⟩), .agg #[.int .i64 t.o, .int .i64 t.a, .int .i64 t.b, .int .i64 t.n], .slice (some ⟨Q2, 0, none⟩) m m] w fun e w' => e = .returned (.bool (comes (hlf xs M) L t)) ∧ Below w.heap.size w w' := by
  have k6 := kids6
  have k7 := kids7
  have VX := V.new w [.int .i64 t.o, .int .i64 t.a, .int .i64 t.b, .int .i64 t.n] 36
  have bb := belowA w (.cells #[.int .i64 t.o, .int .i64 t.a, .int .i64 t.b, .int .i64 t.n] 36)
  replace H := H.kept bb
  replace hL := hL.kept bb
  have CH := Hid.mk (fun j hj => hasHalf_ok base kb p g c d Q m base2 Q2 xs M L j _ H hm hL hn hj)
  rcases Int.lt_or_le t.o 6 with h6 | h6
  · rcases Int.lt_or_le t.o 3 with h3 | h3
    · clear CH pa pb hL H
      rcases (show t.o = 1 ∨ t.o = 2 by omega) with e | e
      · rw [comes_1 _ _ e]
        rw [e] at VX bb ⊢
        obtain ⟨s_VX, f_VX, z_VX⟩ := VX.open
        clear ho h6 h3 e
        go_enter Try.func126, Try.ntmps126
        go_wp2
        go_ret
        exact ⟨rfl, bb⟩
      · rw [comes_2 _ _ e]
        rw [e] at VX bb ⊢
        obtain ⟨s_VX, f_VX, z_VX⟩ := VX.open
        clear ho h6 h3 e
        go_enter Try.func126, Try.ntmps126
        go_wp2
        go_ret
        exact ⟨rfl, bb⟩
    · have e : t.o = 3 ∨ t.o = 4 ∨ t.o = 5 := by omega
      rw [comes_3 _ _ e]
      have kk : kids t.o = 2 := by rcases e with e | e | e <;> rw [e] <;> first | exact kids3 | exact kids4 | exact kids5
      have pa := pa (by omega)
      have pb := pb (by omega)
      obtain ⟨ja, hja⟩ : ∃ j : Nat, t.a = (j : Int) := ⟨t.a.toNat, by omega⟩
      obtain ⟨jb, hjb⟩ : ∃ j : Nat, t.b = (j : Int) := ⟨t.b.toNat, by omega⟩
      rw [hja, hjb] at VX bb ⊢
      have ca := hL.cell (j := ja) (by omega)
      have cb := hL.cell (j := jb) (by omega)
      have la : (ja : Int) < (m : Int) := by omega
      have lb : (jb : Int) < (m : Int) := by omega
      rw [hja, hjb] at ca cb
      rw [atB_nat, atB_nat]
      have e1 : (t.o == 1) = false := by simp; omega
      have e2 : (t.o == 2) = false := by simp; omega
      have e6 : (t.o == 6) = false := by simp; omega
      have e7 : (t.o == 7) = false := by simp; omega
      clear CH hL H e ho h6 h3 kk pa pb hja hjb k6 k7
      generalize L.getD ja false = va at *
      generalize L.getD jb false = vb at *
      obtain ⟨s_VX, f_VX, z_VX⟩ := VX.open
      cases va
      all_goals
        go_enter Try.func126, Try.ntmps126
        go_wp2
        go_ret
        exact ⟨ret_bool (by simp), bb⟩
  · rcases (show t.o = 6 ∨ t.o = 7 by omega) with e | e
    · rw [comes_6 _ _ e]
      have pa := pa (by rw [e, k6]; decide)
      obtain ⟨ja, hja⟩ : ∃ j : Nat, t.a = (j : Int) := ⟨t.a.toNat, by omega⟩
      rw [e, hja] at VX bb ⊢
      have ca := hL.cell (j := ja) (by omega)
      have la : (ja : Int) < (m : Int) := by omega
      rw [e, hja] at ca
      rw [atB_nat]
      clear CH hL H e ho h6 pa pb hja k6 k7
      generalize L.getD ja false = va at *
      obtain ⟨s_VX, f_VX, z_VX⟩ := VX.open
      go_enter Try.func126, Try.ntmps126
      go_wp2
      go_ret
      exact ⟨rfl, bb⟩
    · rw [comes_7 _ _ e]
      have pa := pa (by rw [e, k7]; decide)
      have pb := pb (by rw [e, k7]; decide)
      obtain ⟨ja, hja⟩ : ∃ j : Nat, t.a = (j : Int) := ⟨t.a.toNat, by omega⟩
      obtain ⟨jb, hjb⟩ : ∃ j : Nat, t.b = (j : Int) := ⟨t.b.toNat, by omega⟩
      have ca := hL.cell (j := ja) (by omega)
      have cb := hL.cell (j := jb) (by omega)
      have CA := CH.out ja (by omega)
      have CB := CH.out jb (by omega)
      have lQ0 := hL.lt.2
      have la : (ja : Int) < (m : Int) := by omega
      have lb : (jb : Int) < (m : Int) := by omega
      rw [e, hja, hjb] at VX bb ca cb CA CB lQ0 ⊢
      rw [atB_nat, atB_nat]
      clear CH hL H e ho h6 pa pb hja hjb k6 k7
      generalize L.getD ja false = va at *
      generalize L.getD jb false = vb at *
      generalize hlf xs M ja = ha at *
      generalize hlf xs M jb = hb at *
      replace CA := Hid.mk CA
      replace CB := Hid.mk CB
      obtain ⟨s_VX, f_VX, z_VX⟩ := VX.open
      cases va
      · cases vb
        · go_enter Try.func126, Try.ntmps126
          go_wp2
          go_ret
          exact ⟨rfl, bb⟩
        · go_enter Try.func126, Try.ntmps126
          go_wp2_with (go_at_call 132; refine CA.out.mono ?_; rintro e wq ⟨rfl, bq⟩)
          go_ret
          exact ⟨ret_bool (by simp), thenB bb bq⟩
      · cases hv : (vb || hb)
        · rw [hv] at CB
          obtain ⟨rfl, rfl⟩ : vb = false ∧ hb = false := by simpa using hv
          go_enter Try.func126, Try.ntmps126
          have lQ : Q2 < (w.alloc (.cells #[.int .i64 7, .int .i64 (ja : Int), .int .i64 (jb : Int), .int .i64 t.n] 36)).heap.size := lQ0
          go_wp2_with (go_at_call 132; refine CB.out.mono ?_; rintro e wq ⟨rfl, bq⟩; have cb2 := ((bcell bq).1 Q2 jb lQ).trans cb; obtain ⟨s_VY, f_VY, z_VY⟩ := (VX.kept bq).open)
          go_ret
          exact ⟨ret_bool (by simp), thenB bb bq⟩
        · rw [hv] at CB
          go_enter Try.func126, Try.ntmps126
          go_wp2_with (go_at_call 132; refine CB.out.mono ?_; rintro e wq ⟨rfl, bq⟩)
          go_ret
          exact ⟨ret_bool (by simp), thenB bb bq⟩

theorem told_3 (C : List Bool) {t : T4} (h : t.o = 3) : told C t = [t.a, t.b] := by unfold told; rw [if_pos h]

theorem told_5 (C : List Bool) {t : T4} (h : t.o = 5) : told C t = if atB C t.a = true then [t.b] else [] := by unfold told; simp [h]

theorem told_no (C : List Bool) {t : T4} (h3 : t.o ≠ 3) (h5 : t.o ≠ 5) : told C t = [] := by unfold told; simp [h3, h5]

set_option maxRecDepth 20000 in
set_option maxHeartbeats 4000000 in
theorem partsTold_ok (m base2 Q2 : Nat) (L : List Bool) (t : T4) (w : World) (hL : Fl w base2 Q2 m L) (_hn : m ≤ 400) (pa : t.o = 5 → 0 ≤ t.a ∧ t.a < m) :
    Calls Try.prog 127 #[.agg #[.int .i64 t.o, .int .i64 t.a, .int .i64 t.b, .int .i64 t.n], .slice (some ⟨Q2, 0, none⟩) m m] w fun e w' => ∃ c k d, e = .returned (.slice c k d) ∧ (told L t).length = k ∧ Own .i64 2 w' w.heap.size c d (told L t) ∧ Below w.heap.size w w' := by
  have VX := V.new w [.int .i64 t.o, .int .i64 t.a, .int .i64 t.b, .int .i64 t.n] 36
  have bb := belowA w (.cells #[.int .i64 t.o, .int .i64 t.a, .int .i64 t.b, .int .i64 t.n] 36)
  replace hL := hL.kept bb
  by_cases h3 : t.o = 3
  · rw [told_3 _ h3]
    rw [h3] at VX bb ⊢
    have hR := (OwnI.lit (w.alloc (.cells #[.int .i64 3, .int .i64 t.a, .int .i64 t.b, .int .i64 t.n] 36)) [t.a, t.b] [.int .i64 t.a, .int .i64 t.b] rfl (by unfold maxLen; simp)).mono (show w.heap.size ≤ _ by rw [World.size_alloc]; exact Nat.le_succ _)
    rw [World.size_alloc] at hR
    have b2 := thenB bb (belowA _ (.cells #[.int .i64 t.a, .int .i64 t.b] 2))
    clear hL pa h3
    obtain ⟨s_VX, f_VX, z_VX⟩ := VX.open
    go_enter Try.func127, Try.ntmps127
    go_wp2
    go_ret
    exact ⟨_, _, _, rfl, rfl, hR, b2⟩
  · have e3 : (t.o == 3) = false := by simp [h3]
    by_cases h5 : t.o = 5
    · have pa := pa h5
      obtain ⟨ja, hja⟩ : ∃ j : Nat, t.a = (j : Int) := ⟨t.a.toNat, by omega⟩
      rw [told_5 _ h5, hja, atB_nat]
      rw [h5, hja] at VX bb
      rw [h5]
      have ca := hL.cell (j := ja) (by omega)
      rw [h5, hja] at ca
      have la : (ja : Int) < (m : Int) := by omega
      clear hL pa h3 e3
      generalize L.getD ja false = v at *
      obtain ⟨s_VX, f_VX, z_VX⟩ := VX.open
      cases v
      · simp only [Bool.false_eq_true, if_false]
        go_enter Try.func127, Try.ntmps127
        go_wp2
        go_ret
        exact ⟨_, _, _, rfl, rfl, own_none, bb⟩
      · simp only [if_true]
        have hR := (OwnI.lit (w.alloc (.cells #[.int .i64 5, .int .i64 (ja : Int), .int .i64 t.b, .int .i64 t.n] 36)) [t.b] [.int .i64 t.b] rfl (by unfold maxLen; simp)).mono (show w.heap.size ≤ _ by rw [World.size_alloc]; exact Nat.le_succ _)
        rw [World.size_alloc] at hR
        have b2 := thenB bb (belowA _ (.cells #[.int .i64 t.b] 2))
        go_enter Try.func127, Try.ntmps127
        go_wp2
        go_ret
        exact ⟨_, _, _, rfl, rfl, hR, b2⟩
    · have e5 : (t.o == 5) = false := by simp [h5]
      rw [told_no _ h3 h5]
      clear hL pa h3 h5
      obtain ⟨s_VX, f_VX, z_VX⟩ := VX.open
      go_enter Try.func127, Try.ntmps127
      go_wp2
      go_ret
      exact ⟨_, _, _, rfl, rfl, own_none, bb⟩
end

section
open Go.RowKit

theorem knC_tf {xs : List T4} (kn : List Int) (h : tfC xs ≠ 0) : knC xs kn = tfC xs := by unfold knC; rw [if_pos h]

theorem knC_many {xs : List T4} {kn : List Int} (h : tfC xs = 0) (h2 : 400 < kn.length) : knC xs kn = 2 := by unfold knC; rw [if_neg (by simp [h]), if_pos h2]

theorem knC_k {xs : List T4} {kn : List Int} (h : tfC xs = 0) (h2 : ¬ 400 < kn.length) : knC xs kn = knK xs.length kn 0 := by unfold knC; rw [if_neg (by simp [h]), if_neg h2]

theorem build_know (p Q n : Nat) (w : World) : (Instr.build 119 #[(0, .pointer (some ⟨p, 0, none⟩)), (1, .slice (some ⟨Q, 0, none⟩) n n)]).run Try.prog w = .ok (.agg #[.pointer (some ⟨p, 0, none⟩), .slice (some ⟨Q, 0, none⟩) n n]) w := run_build w 119 _ _ (by kernel_rfl)

/-- What comes of looking at what is known. -/
def KnOf (xs : List T4) (kn : List Int) (w : World) (v : Value) (w' : World) : Prop :=
  (knC xs kn ≠ 0 ∧ v = .pointer none) ∨ (knC xs kn = 0 ∧ ∃ (kb p g : Nat) (c : Option Addr) (d Q : Nat), v = .pointer (some ⟨kb, 0, none⟩) ∧ Kn w' w.heap.size kb p g c d Q xs (mrk xs.length kn))

theorem arePlaces_one (a : Option Addr) (m ca : Nat) (c : Option Addr) (d : Nat) (q : Int) (w : World) (hm : m ≤ maxLen) (hR : Rd .i64 w c [q]) :
    Calls Try.prog 84 #[.slice a m ca, .slice c 1 d] w fun e w' => e = .returned (.bool (btw q 0 ((m : Int) - 1))) ∧ w' = w := by
  rw [← plsOk_one]
  exact arePlaces_ok a m ca c 1 d [q] w hR rfl hm (by unfold maxLen; omega)

set_option maxRecDepth 20000 in
set_option maxHeartbeats 8000000 in
theorem knowledgeOf_ok (a : Option Addr) (n ca : Nat) (xs : List T4) (a2 : Option Addr) (n2 ca2 : Nat) (kn : List Int) (w : World) (ha : RdTerm w a xs) (hn : xs.length = n) (hx : n ≤ maxLen) (hok : ∀ t ∈ xs, okT t) (ha2 : Rd .i64 w a2 kn) (hn2 : kn.length = n2) (hx2 : n2 ≤ maxLen) :
    Calls Try.prog 85 #[.slice a n ca, .slice a2 n2 ca2] w fun e w' => ∃ (v : Value) (k : Int), e = .returned (.tuple #[v, .int .i64 k]) ∧ knC xs kn = k ∧ Below w.heap.size w w' ∧ KnOf xs kn w v w' := by
  unfold maxLen at hx2
  unfold KnOf
  by_cases ht : tfC xs = 0
  rotate_left
  · have CB := Hid.mk (bookOf_no a n ca xs w ha hn hx hok ht)
    have hr := knC_tf kn ht
    rw [hr]
    have h2 : (tfC xs != 0) = true := by simp [ht]
    have HT := Hid.mk ht
    clear hr ht ha ha2
    generalize tfC xs = kk at *
    go_enter Try.func85, Try.ntmps85
    go_wp2_with fail
    refine CB.out.mono ?_
    rintro e w1 ⟨rfl, b1⟩
    go_wp2
    refine bodyPost_ret (v := .tuple #[.pointer none, .int .i64 kk]) (by simp [results, Try.results85, go_sem]) rfl ⟨_, _, rfl, rfl, b1, .inl ⟨HT.out, rfl⟩⟩
  have CB := Hid.mk (bookOf_yes a n ca xs w ha hn hx hok ht)
  have hn4 : n ≤ 400 := by have := (tfC_zero ht).1; omega
  by_cases h2 : 400 < n2
  · have hr := knC_many (kn := kn) ht (by omega)
    rw [hr]
    have d2 : decide ((400 : Int) < n2) = true := by simp; omega
    clear hr ht ha ha2 h2
    go_enter Try.func85, Try.ntmps85
    go_wp2_with fail
    refine CB.out.mono ?_
    rintro e w1 ⟨p, g, c, d, rfl, H, b1⟩
    clear H
    go_wp2
    refine bodyPost_ret (v := .tuple #[.pointer none, .int .i64 2]) (by simp [results, Try.results85, go_sem]) rfl ⟨_, _, rfl, rfl, b1, .inl ⟨by decide, rfl⟩⟩
  have d2 : decide ((400 : Int) < n2) = false := by simp; omega
  have hr := knC_k (kn := kn) ht (by omega)
  rw [hn] at hr
  rw [hr]
  clear hr
  obtain ⟨F, hF⟩ : ∃ F, knK (n : Int) kn 0 = F := ⟨_, rfl⟩
  rw [hF, hn]
  replace hF := Hid.mk hF
  replace ha2 := Hid.mk ha2
  have CP := Hid.mk (fun c d q w c2 d2 h => arePlaces_one c n d c2 d2 q w hx h)
  obtain ⟨i0, hi, hz0, hz1, hz2⟩ := info_parts Try.infoMark
  have hbd := build_know
  clear ha
  go_enter Try.func85, Try.ntmps85
  go_wp2_with fail
  refine CB.out.mono ?_
  rintro e w1 ⟨p, g, c, d, rfl, H, b1⟩
  clear CB
  have VP := H.v
  rw [hn] at VP
  obtain ⟨s_VP, f_VP, z_VP⟩ := VP.open
  go_wp2_with (at_make; go_loud (refine wpList_make_full _ rfl _ _ 111 rfl w1.heap.size 4 i0 (.bool false) 1 Try.underlying111 hi hz0 hz1 .i64 .i64 _ _ n rfl rfl (by omega) (by omega) (by rw [hz2]; omega) (by unfold maxLen; omega) (Nat.le_refl _) ?_))
  intro w2 hown hgrow
  have hmade : Fl w2 w1.heap.size w1.heap.size n (List.replicate n false) := Fl.made (by simpa [toList_madeCells_one] using hown)
  have B12 : Below w1.heap.size w1 w2 := (Below.refl _ w1).grown hgrow (Nat.le_refl _) (by intro k hk; cases hk)
  have b2 := thenB b1 B12
  have hQ2 := hmade.lt.2
  have hbs := b1.size
  have hlt := H.lt
  have HK0 : Kn (w2.alloc (.cells #[.pointer (some ⟨p, 0, none⟩), .slice (some ⟨w1.heap.size, 0, none⟩) n n] 119)) w.heap.size w2.heap.size p g c d w1.heap.size xs (mrk n (kn.take 0)) :=
    ⟨(H.kept B12).kept (belowA _ _), by rw [hn]; exact V.new w2 _ _, by rw [hn, List.take_zero, mrk_nil]; exact (hmade.mono hbs).kept (belowA _ _), by omega, fun e => by have := (hlt _ e).2; omega, fun e => by have := (hlt _ e).2; omega, by omega⟩
  have b3 := thenB b2 (belowA w2 (.cells #[.pointer (some ⟨p, 0, none⟩), .slice (some ⟨w1.heap.size, 0, none⟩) n n] 119))
  replace HK0 := Hid.mk HK0
  replace b3 := Hid.mk b3
  clear hown hmade B12 b2 hlt H hgrow hi hz0 hz1 hz2 VP s_VP f_VP z_VP
  generalize w1.heap.size = Q at *
  generalize hkb : w2.heap.size = kb at *
  go_wp2
  clear d2 hbd hkb
  go_loopw [33] (fun i wr => ∃ (k : Nat), k ≤ n2 ∧ i = .int .i64 k ∧ Hid (knK n kn k = F) ∧ Kn wr w.heap.size kb p g c d Q xs (mrk n (kn.take k)) ∧ Below w.heap.size w wr) (fun i _ => n2 - (intOf i).toNat)
  case atStart => exact ⟨0, Nat.zero_le _, rfl, hF, HK0.out, b3.out⟩
  case round =>
    clear HK0 b3 hF b1 hbs hQ2
    obtain ⟨k, hk, rfl, hdr, H, B⟩ := hrel
    by_cases hlt : k < n2
    · obtain ⟨z, hz⟩ : ∃ z, kn.getD k 0 = z := ⟨_, rfl⟩
      have hk1 : (k : Int) < (n2 : Int) := by omega
      have hs := knK_step (n := (n : Int)) (kn := kn) (k := k) (by omega) hz
      rw [hdr.out] at hs
      have ht2 : kn.take k ++ [z] = kn.take (k + 1) := by rw [take_snoc kn k (by omega), hz]
      rcases ha2.out.kept B with h0 | ⟨b4, o4, rfl, hca⟩
      · rw [h0] at hn2; simp at hn2; omega
      have p0 := hca k (by omega)
      rw [hz] at p0
      have pm := hca (k - 1) (by omega)
      replace hca := Hid.mk hca
      have hR := (OwnI.lit wr [z] [.int .i64 z] rfl (by unfold maxLen; simp)).rd
      have bA := belowA wr (.cells #[.int .i64 z] 2)
      have VK := H.v
      have VP := H.bk.v
      rw [hn] at VK VP
      obtain ⟨s_VK, f_VK, z_VK⟩ := VK.open
      obtain ⟨s_VP, f_VP, z_VP⟩ := VP.open
      cases hb : btw z 0 ((n : Int) - 1)
      · rw [if_pos (by rw [← Bool.not_eq_true] at hb; rw [btw_iff] at hb; omega)] at hs
        have HS := Hid.mk hs
        have B2 := thenB B bA
        clear hs pm
        go_wp2_with fail
        refine (CP.out _ _ _ _ _ _ hR).mono ?_
        rintro e wq ⟨rfl, rfl⟩
        rw [hb]
        go_wp2
        refine bodyPost_ret (v := .tuple #[.pointer none, .int .i64 3]) (by simp [results, Try.results85, go_sem]) rfl ⟨_, _, rfl, HS.out, B2, .inl ⟨by rw [HS.out]; decide, rfl⟩⟩
      · have hzr := btw_iff.1 hb
        rw [if_neg (by omega)] at hs
        obtain ⟨jz, rfl⟩ := Int.eq_ofNat_of_zero_le hzr.1
        have hjz : jz < n := by omega
        have hjz1 : (jz : Int) < (n : Int) := by omega
        have hf := H.f
        rw [hn] at hf
        have cz := hf.cell hjz
        have fz := hf.frozen jz
        have sQ := hf.lt.2
        have sb4 := World.block_lt_of_cell? _ _ p0
        simp only at sb4
        have ht3 := mrk_snoc (l := kn.take k) hjz
        rw [ht2] at ht3
        have H2 := Hid.mk ((H.set jz true).kept (belowA _ (.cells #[.int .i64 (jz : Int)] 2)))
        rw [← ht3] at H2
        have B2 := Hid.mk (thenB (B.setCell (p := ⟨Q, jz, none⟩) (hf.lt.1) (.bool true)) (belowA _ (.cells #[.int .i64 (jz : Int)] 2)))
        clear hca hf VK VP ht2 ht3 hzr H hz
        rcases Nat.eq_zero_or_pos k with h0 | h0
        · rw [if_neg (by omega)] at hs
          have HS := Hid.mk hs
          have d0 : decide (0 < k) = false := by simp; omega
          clear hs pm h0
          go_wp2_with fail
          refine (CP.out _ _ _ _ _ _ hR).mono ?_
          rintro e wq ⟨rfl, rfl⟩
          rw [hb]
          go_wp2
          go_roundw
          case rel => exact ⟨k + 1, by omega, by go_num, Hid.mk HS.out.symm, H2.out, B2.out⟩
          case measure => first | (simp [intOf]; done) | (simp [intOf]; omega)
        · obtain ⟨j, hj⟩ : ∃ j, k - 1 = j := ⟨_, rfl⟩
          rw [hj] at pm hs
          have hkm : (k : Int) - 1 = (j : Int) := by omega
          have hj1 : (j : Int) < (n2 : Int) := by omega
          have d0 : decide (0 < k) = true := by simp; omega
          generalize kn.getD j 0 = v at *
          by_cases hv : (jz : Int) ≤ v
          · rw [if_pos ⟨h0, hv⟩] at hs
            have HS := Hid.mk hs
            have dv : decide ((jz : Int) ≤ v) = true := by simp; omega
            have B3 := Hid.mk (thenB B bA)
            clear hs h0 hj hv H2 B2 cz fz
            go_wp2_with fail
            refine (CP.out _ _ _ _ _ _ hR).mono ?_
            rintro e wq ⟨rfl, rfl⟩
            rw [hb]
            go_wp2
            refine bodyPost_ret (v := .tuple #[.pointer none, .int .i64 1]) (by simp [results, Try.results85, go_sem]) rfl ⟨_, _, rfl, HS.out, B3.out, .inl ⟨by rw [HS.out]; decide, rfl⟩⟩
          · rw [if_neg (by omega)] at hs
            have HS := Hid.mk hs
            have dv : decide ((jz : Int) ≤ v) = false := by simp; omega
            clear hs h0 hj hv
            go_wp2_with fail
            refine (CP.out _ _ _ _ _ _ hR).mono ?_
            rintro e wq ⟨rfl, rfl⟩
            rw [hb]
            go_wp2
            go_roundw
            case rel => exact ⟨k + 1, by omega, by go_num, Hid.mk HS.out.symm, H2.out, B2.out⟩
            case measure => first | (simp [intOf]; done) | (simp [intOf]; omega)
    · obtain rfl : k = n2 := by omega
      rw [knK_end (by omega)] at hdr
      have hF0 := hdr.out
      have hk2 : kn.take k = kn := List.take_of_length_le (by omega)
      rw [hk2] at H
      replace H := Hid.mk H
      go_wp2
      refine bodyPost_ret (v := .tuple #[.pointer (some ⟨kb, 0, none⟩), .int .i64 0]) (by simp [results, Try.results85, go_sem]) rfl ⟨_, _, rfl, hF0.symm, B, .inr ⟨hF0.symm, kb, p, g, c, d, Q, rfl, H.out⟩⟩

theorem ownT_cells {w : World} {base : Nat} {c : Option Addr} {d : Nat} {xs : List T4} (h : OwnTerm w base c d xs) : xs = [] ∨ ∃ b o, c = some ⟨b, o, none⟩ ∧ b < w.heap.size ∧ ∀ k, k < xs.length → ∀ x, xs.getD k zTerm = x → w.cell? ⟨b, o + k * 4, none⟩ = some (.int .i64 x.o) ∧ w.cell? ⟨b, o + k * 4 + 1, none⟩ = some (.int .i64 x.a) ∧ w.cell? ⟨b, o + k * 4 + 2, none⟩ = some (.int .i64 x.b) ∧ w.cell? ⟨b, o + k * 4 + 3, none⟩ = some (.int .i64 x.n) := by
  rcases h.rd with h0 | ⟨b, o, rfl, hca⟩
  · exact .inl h0
  · refine .inr ⟨b, o, rfl, (h.lt _ rfl).2, fun k hk x hx => RdTerm.cells hca k hk x hx⟩

set_option maxRecDepth 20000 in
set_option maxHeartbeats 8000000 in
theorem makeable_ok (base kb p g : Nat) (c : Option Addr) (d Q n : Nat) (xs : List T4) (M : List Bool) (w : World) (H : Kn w base kb p g c d Q xs M) (hn : xs.length = n) (ht : tfC xs = 0) :
    Calls Try.prog 113 #[.pointer (some ⟨kb, 0, none⟩)] w fun e w' => ∃ Q2, e = .returned (.slice (some ⟨Q2, 0, none⟩) n n) ∧ Fl w' w.heap.size Q2 n (canL xs (flg M)) ∧ Below w.heap.size w w' := by
  have hn4 : n ≤ 400 := by have := (tfC_zero ht).1; omega
  obtain ⟨i0, hi, hz0, hz1, hz2⟩ := info_parts Try.infoMark
  have H0 := Hid.mk H
  have VK := H.v
  have VP := H.bk.v
  rw [hn] at VK VP
  obtain ⟨s_VK, f_VK, z_VK⟩ := VK.open
  obtain ⟨s_VP, f_VP, z_VP⟩ := VP.open
  go_enter Try.func113, Try.ntmps113
  go_wp2_with (at_make; go_loud (refine wpList_make_full _ rfl _ _ 111 rfl w.heap.size 4 i0 (.bool false) 1 Try.underlying111 hi hz0 hz1 .i64 .i64 _ _ n rfl rfl (by omega) (by omega) (by rw [hz2]; omega) (by unfold maxLen; omega) (Nat.le_refl _) ?_))
  intro w2 hown hgrow
  have hmade : Fl w2 w.heap.size w.heap.size n (mkA xs M 0) := by rw [mkA_zero, hn]; exact Fl.made (by simpa [toList_madeCells_one] using hown)
  have B2 : Below w.heap.size w w2 := (Below.refl _ w).grown hgrow (Nat.le_refl _) (by intro k hk; cases hk)
  replace VK := VK.kept B2
  replace VP := VP.kept B2
  replace H := H.kept B2
  clear s_VK f_VK z_VK s_VP f_VP z_VP hown hgrow hi hz0 hz1 hz2
  obtain ⟨s_VK, f_VK, z_VK⟩ := VK.open
  obtain ⟨s_VP, f_VP, z_VP⟩ := VP.open
  go_wp2
  clear s_VK f_VK z_VK s_VP f_VP z_VP VK VP
  go_loopw [23] (fun i wr => ∃ (k : Nat), k ≤ n ∧ i = .int .i64 k ∧ Fl wr w.heap.size w.heap.size n (mkA xs M k) ∧ Below w.heap.size w wr) (fun i _ => n - (intOf i).toNat)
  case atStart => exact ⟨0, Nat.zero_le _, rfl, hmade, B2⟩
  case round =>
    clear hmade H B2
    obtain ⟨k, hk, rfl, HF, B⟩ := hrel
    have H := H0.out.kept B
    by_cases hlt : k < n
    · obtain ⟨x, hx⟩ : ∃ x, xs.getD k zTerm = x := ⟨_, rfl⟩
      have hk1 : (k : Int) < (n : Int) := by omega
      have hs := mkA_step ht (M := M) (k := k) (by omega) hx
      obtain ⟨ho1, ho7⟩ := op_in ht (k := k) (by omega) hx
      obtain ⟨pa, pb⟩ := tfC_ahead ht k (by omega)
      rw [hx] at pa pb
      have VK := H.v
      have VP := H.bk.v
      rw [hn] at VK VP
      have hq := H.f
      rw [hn] at hq
      have p9 := hq.cell (j := k) hlt
      have sQ := hq.lt.2
      have c2 := HF.cell (j := k) hlt
      have z2 := HF.frozen k
      have s2 := HF.lt.2
      rcases ownT_cells H.bk.o with h0 | ⟨b1, o1, rfl, s1, hca⟩
      · rw [h0] at hn; simp at hn; omega
      obtain ⟨q0, q1, q2, q3⟩ := hca k (by omega) x hx
      obtain ⟨s_VK, f_VK, z_VK⟩ := VK.open
      obtain ⟨s_VP, f_VP, z_VP⟩ := VP.open
      clear hca hq VK VP
      cases hm : M.getD k false
      · rw [hm] at p9 hs
        have bA := belowA wr (.cells #[.int .i64 x.o, .int .i64 x.a, .int .i64 x.b, .int .i64 x.n] 36)
        have CC := Hid.mk (comesOf_ok base kb p g _ d Q n _ _ xs M (mkA xs M k) x _ (H.kept bA) hn (HF.kept bA) hn4 ⟨ho1, ho7⟩ (fun q => by have := pa q; omega) (fun q => by have := pb q; omega))
        have HFA := HF.kept bA
        replace B := thenB B bA
        have hs2 := Hid.mk hs
        clear hs pa pb ho1 ho7 H HF c2 z2 bA hm
        rw [Bool.false_or] at hs2
        generalize comes (hlf xs M) (mkA xs M k) x = v at *
        go_wp2_with (go_at_call 126; refine CC.out.mono ?_; rintro e w3 ⟨rfl, b3⟩; have HF3 := HFA.kept b3; have c3 := HF3.cell (j := k) hlt; have z3 := HF3.frozen k)
        have HF4 := HF3.set k v
        rw [← hs2.out] at HF4
        have B4 := (thenB B b3).setCell (p := ⟨w.heap.size, k, none⟩) (Nat.le_refl _) (.bool v)
        go_roundw
        case rel => exact ⟨k + 1, by omega, by go_num, HF4, B4⟩
        case measure => first | (simp [intOf]; done) | (simp [intOf]; omega)
      · rw [hm, Bool.true_or] at hs
        rw [hm] at p9
        have HF2 := HF.set k true
        rw [← hs] at HF2
        replace HF2 := HF2.kept (belowA _ (.cells #[.int .i64 x.o, .int .i64 x.a, .int .i64 x.b, .int .i64 x.n] 36))
        have B2 := thenB (B.setCell (p := ⟨w.heap.size, k, none⟩) (Nat.le_refl _) (.bool true)) (belowA _ (.cells #[.int .i64 x.o, .int .i64 x.a, .int .i64 x.b, .int .i64 x.n] 36))
        replace HF2 := Hid.mk HF2
        replace B2 := Hid.mk B2
        clear hs pa pb ho1 ho7 H HF B hm
        go_wp2
        go_roundw
        case rel => exact ⟨k + 1, by omega, by go_num, HF2.out, B2.out⟩
        case measure => first | (simp [intOf]; done) | (simp [intOf]; omega)
    · obtain rfl : k = n := by omega
      have he := mkA_end xs M
      rw [hn] at he
      rw [he] at HF
      replace HF := Hid.mk HF
      replace H := Hid.mk H
      go_wp2
      go_ret
      exact ⟨_, rfl, HF.out, B⟩
end

end Go.Proofs.Ythkmoabkeblbjaa
