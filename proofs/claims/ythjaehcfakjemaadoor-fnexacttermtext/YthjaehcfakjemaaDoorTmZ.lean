/- What a term is made of: its parts. -/
import Derived.Test.YthjaehcfakjemaaDoorTmE
import Derived.Test.YthjaehcfakjemaaDoorSortI
namespace Go.Proofs.YthjaehcfakjemaaDoor
open Go.RowKit

/-- A place that a term is made of. -/
inductive Rch (xs : List T4) (r : Nat) : Nat → Prop where
  | top : Rch xs r r
  | step {i j : Nat} : Rch xs r i → (j : Int) ∈ plc (xs.getD i zTerm) → Rch xs r j

/-- Each term's places are ahead of it. -/
def Names (xs : List T4) : Prop := ∀ k, k < xs.length → ∀ z ∈ plc (xs.getD k zTerm), 0 ≤ z ∧ z < k

theorem Rch.lt {xs : List T4} (N : Names xs) {r i : Nat} (hr : r < xs.length) (h : Rch xs r i) : i ≤ r := by
  induction h with
  | top => exact Nat.le_refl _
  | step h1 h2 ih => have := N _ (by omega) _ h2; omega

theorem Rch.trans {xs : List T4} {r i j : Nat} (h : Rch xs r i) (k : Rch xs i j) : Rch xs r j := by
  induction k with
  | top => exact h
  | step _ h2 ih => exact .step ih h2

/-- The marks behind k rounds from the top down. -/
def mks (xs : List T4) (r : Nat) : Nat → Nat → Bool
  | 0 => fun i => i == r
  | k + 1 => fun j => mks xs r k j || (mks xs r k (r - k) && (plc (xs.getD (r - k) zTerm)).any fun z => z == (j : Int))

theorem mks_mono {xs : List T4} {r k j : Nat} (h : mks xs r k j = true) : mks xs r (k + 1) j = true := by simp [mks, h]

theorem mks_le {xs : List T4} {r j k m : Nat} (h : k ≤ m) (h1 : mks xs r k j = true) : mks xs r m j = true := by
  induction m with
  | zero =>
    have e : k = 0 := by omega
    rw [e] at h1; exact h1
  | succ m ih =>
    rcases Nat.lt_or_ge m k with h2 | h2
    · have e : k = m + 1 := by omega
      rw [e] at h1; exact h1
    · exact mks_mono (ih h2)

theorem mks_rch {xs : List T4} {r : Nat} : ∀ k j, mks xs r k j = true → Rch xs r j
  | 0, j, h => by simp [mks] at h; subst h; exact .top
  | k + 1, j, h => by
    simp only [mks, Bool.or_eq_true, Bool.and_eq_true, List.any_eq_true] at h
    rcases h with h | ⟨h, z, hz, he⟩
    · exact mks_rch k j h
    · refine .step (mks_rch k _ h) ?_
      have : z = (j : Int) := by simpa using he
      rw [← this]; exact hz

/-- A mark at a place that has been gone by stays as it is. -/
theorem mks_old {xs : List T4} (N : Names xs) {r : Nat} (hr : r < xs.length) {k m j : Nat} (hk : r ≤ k + j) (hkm : k ≤ m) (h : mks xs r m j = true) : mks xs r k j = true := by
  induction m with
  | zero =>
    have e : k = 0 := by omega
    rw [e]; exact h
  | succ m ih =>
    rcases Nat.lt_or_ge m k with h2 | h2
    · have e : k = m + 1 := by omega
      rw [e]; exact h
    · refine ih h2 ?_
      simp only [mks, Bool.or_eq_true, Bool.and_eq_true, List.any_eq_true] at h
      rcases h with h | ⟨_, z, hz, he⟩
      · exact h
      · have h3 := N (r - m) (by omega) z hz
        have h4 : z = (j : Int) := by simpa using he
        omega

theorem rch_mks {xs : List T4} (N : Names xs) {r : Nat} (hr : r < xs.length) {j : Nat} (h : Rch xs r j) : mks xs r (r + 1) j = true := by
  induction h with
  | top => exact mks_le (Nat.zero_le _) (by simp [mks])
  | @step i j h1 h2 ih =>
    have hi := h1.lt N hr
    have hm : mks xs r (r - i) i = true := mks_old N hr (k := r - i) (m := r + 1) (j := i) (by omega) (by omega) ih
    refine mks_le (k := r - i + 1) (by omega) ?_
    simp only [mks, Bool.or_eq_true, Bool.and_eq_true, List.any_eq_true]
    right
    rw [show r - (r - i) = i by omega]
    exact ⟨hm, (j : Int), h2, by simp⟩

theorem mks_iff {xs : List T4} (N : Names xs) {r : Nat} (hr : r < xs.length) {j : Nat} : mks xs r (r + 1) j = true ↔ Rch xs r j := ⟨mks_rch _ _, rch_mks N hr⟩

/-- The places that a term is made of, rising. -/
@[irreducible] def prL (xs : List T4) (r : Nat) : List Int := ((List.range (r + 1)).filter fun i => mks xs r (r + 1) i).map fun i : Nat => (i : Int)

theorem prL_mem {xs : List T4} (N : Names xs) {r : Nat} (hr : r < xs.length) {z : Int} : z ∈ prL xs r ↔ ∃ i : Nat, z = (i : Int) ∧ Rch xs r i := by
  unfold prL
  rw [List.mem_map]
  constructor
  · rintro ⟨i, hi, rfl⟩
    rw [List.mem_filter] at hi
    exact ⟨i, rfl, (mks_iff N hr).1 hi.2⟩
  · rintro ⟨i, rfl, hi⟩
    refine ⟨i, ?_, rfl⟩
    rw [List.mem_filter]
    have := hi.lt N hr
    exact ⟨List.mem_range.2 (by omega), (mks_iff N hr).2 hi⟩

theorem prL_rising (xs : List T4) (r : Nat) : (prL xs r).Pairwise (fun x y => x < y) := by
  unfold prL
  rw [List.pairwise_map]
  exact (List.pairwise_lt_range.filter _).imp (fun h => by omega)

theorem prL_len (xs : List T4) (r : Nat) : (prL xs r).length ≤ r + 1 := by
  unfold prL
  rw [List.length_map]
  have := List.length_filter_le (fun i => mks xs r (r + 1) i) (List.range (r + 1))
  simpa using this

/-- Two rising lists of the same numbers are one. -/
theorem rising_eq : ∀ (xs ys : List Int), xs.Pairwise (fun x y => x < y) → ys.Pairwise (fun x y => x < y) → (∀ z, z ∈ xs ↔ z ∈ ys) → xs = ys
  | [], [], _, _, _ => rfl
  | [], y :: ys, _, _, h => by have := (h y).2 (by simp); cases this
  | x :: xs, [], _, _, h => by have := (h x).1 (by simp); cases this
  | x :: xs, y :: ys, hx, hy, h => by
    obtain ⟨hx1, hx2⟩ := List.pairwise_cons.1 hx
    obtain ⟨hy1, hy2⟩ := List.pairwise_cons.1 hy
    have e : x = y := by
      have h1 := (h x).1 (by simp)
      have h2 := (h y).2 (by simp)
      rcases List.mem_cons.1 h1 with e | h1
      · exact e
      · rcases List.mem_cons.1 h2 with e | h2
        · exact e.symm
        · have := hy1 x h1; have := hx1 y h2; omega
    subst e
    rw [rising_eq xs ys hx2 hy2 (fun z => ?_)]
    constructor
    · intro hz
      rcases List.mem_cons.1 ((h z).1 (List.mem_cons_of_mem _ hz)) with e | h1
      · subst e; have := hx1 z hz; omega
      · exact h1
    · intro hz
      rcases List.mem_cons.1 ((h z).2 (List.mem_cons_of_mem _ hz)) with e | h1
      · subst e; have := hy1 z hz; omega
      · exact h1

theorem igetD_mem {l : List Int} {k : Nat} (h : k < l.length) : l.getD k 0 ∈ l := by simp [List.getD, h]

theorem igetD_some {l : List Int} {k : Nat} (h : k < l.length) : l[k]? = some (l.getD k 0) := by simp [List.getD, h]

/-- What a walk downwards takes: each place once, all of them parts, the top among them, and with each what it names. -/
structure Took (xs : List T4) (r : Nat) (T ps : List Int) : Prop where
  once : ps.Nodup
  new : ∀ p ∈ ps, p ∉ T
  part : ∀ p ∈ ps, ∃ i : Nat, p = (i : Int) ∧ Rch xs r i
  top : (r : Int) ∈ ps ++ T
  shut : ∀ p ∈ ps, ∀ z ∈ plc (xs.getD p.toNat zTerm), z ∈ ps ++ T

/-- .. in the midst of it: the first k of what the top names are done. -/
structure Taking (xs : List T4) (r : Nat) (T ps : List Int) (k : Nat) : Prop where
  once : ps.Nodup
  new : ∀ p ∈ ps, p ∉ T
  part : ∀ p ∈ ps, ∃ i : Nat, p = (i : Int) ∧ Rch xs r i
  top : (r : Int) ∈ ps
  shut : ∀ p ∈ ps, p ≠ (r : Int) → ∀ z ∈ plc (xs.getD p.toNat zTerm), z ∈ ps ++ T
  own : ∀ z ∈ (plc (xs.getD r zTerm)).take k, z ∈ ps ++ T

theorem Taking.start {xs : List T4} {r : Nat} {T : List Int} (h : (r : Int) ∉ T) : Taking xs r T [(r : Int)] 0 :=
  ⟨by simp, by simpa using h, fun p hp => ⟨r, by simpa using hp, .top⟩, by simp, fun p hp hne => absurd (by simpa using hp) hne, by simp⟩

theorem Taking.next {xs : List T4} {r : Nat} {T ps qs : List Int} {k : Nat} {j : Nat} (h : Taking xs r T ps k) (hk : k < (plc (xs.getD r zTerm)).length) (hj : (plc (xs.getD r zTerm)).getD k 0 = (j : Int)) (q : Took xs j (ps ++ T) qs) : Taking xs r T (ps ++ qs) (k + 1) := by
  have hm : (j : Int) ∈ plc (xs.getD r zTerm) := by rw [← hj]; exact igetD_mem hk
  refine ⟨?_, ?_, ?_, by simp [h.top], ?_, ?_⟩
  · rw [List.nodup_append]
    exact ⟨h.once, q.once, fun a ha b hb e => by subst e; exact q.new a hb (by simp [ha])⟩
  · intro p hp
    rcases List.mem_append.1 hp with hp | hp
    · exact h.new p hp
    · exact fun e => q.new p hp (by simp [e])
  · intro p hp
    rcases List.mem_append.1 hp with hp | hp
    · exact h.part p hp
    · obtain ⟨i, e, hi⟩ := q.part p hp
      exact ⟨i, e, (Rch.step .top hm).trans hi⟩
  · intro p hp hne z hz
    rcases List.mem_append.1 hp with hp | hp
    · have := h.shut p hp hne z hz; simp at this ⊢; rcases this with h1 | h1 <;> simp [h1]
    · have := q.shut p hp z hz; simp at this ⊢; rcases this with h1 | h1 | h1 <;> simp [h1]
  · intro z hz
    rw [List.take_add_one] at hz
    rcases List.mem_append.1 hz with hz | hz
    · have := h.own z hz; simp at this ⊢; rcases this with h1 | h1 <;> simp [h1]
    · have e : (plc (xs.getD r zTerm))[k]? = some (j : Int) := by rw [← hj]; exact igetD_some hk
      rw [e] at hz
      have : z = (j : Int) := by simpa using hz
      subst this
      have := q.top; simp at this ⊢; rcases this with h1 | h1 | h1 <;> simp [h1]

theorem Taking.done {xs : List T4} {r : Nat} {T ps : List Int} {k : Nat} (h : Taking xs r T ps k) (hk : (plc (xs.getD r zTerm)).length ≤ k) : Took xs r T ps := by
  refine ⟨h.once, h.new, h.part, by simp [h.top], fun p hp z hz => ?_⟩
  by_cases e : p = (r : Int)
  · subst e
    rw [Int.toNat_natCast] at hz
    exact h.own z (by rw [List.take_of_length_le hk]; exact hz)
  · exact h.shut p hp e z hz

theorem Took.none {xs : List T4} {r : Nat} {T : List Int} (h : (r : Int) ∈ T) : Took xs r T [] := ⟨by simp, by simp, by simp, by simpa using h, by simp⟩

/-- All that a term is made of has been taken, and nothing else. -/
theorem Took.all {xs : List T4} (N : Names xs) {r : Nat} (hr : r < xs.length) {ps : List Int} (h : Took xs r [] ps) : srt ps = prL xs r := by
  have hmem : ∀ z, z ∈ ps ↔ z ∈ prL xs r := by
    intro z
    rw [prL_mem N hr]
    constructor
    · exact h.part z
    · rintro ⟨i, rfl, hi⟩
      induction hi with
      | top => simpa using h.top
      | @step a b h1 h2 ih =>
        have := h.shut _ ih (b : Int) (by rw [Int.toNat_natCast]; exact h2)
        simpa using this
  refine rising_eq _ _ ?_ (prL_rising xs r) (fun z => by rw [srt_mem]; exact hmem z)
  have h1 := srt_rising ps
  have h2 : (srt ps).Nodup := (srt_perm ps).nodup_iff.2 h.once
  have h3 := h1.and h2
  exact h3.imp (fun h => by omega)

/-- What is left of a table's places. -/
def lftM (xs : List T4) (T : List Int) : T4 → Option Int := fun t => if t ∈ xs ∧ ((tmIdx xs t : Nat) : Int) ∉ T then some (tmIdx xs t : Nat) else none

theorem lftM_same {xs : List T4} {T T' : List Int} (h : ∀ z, z ∈ T ↔ z ∈ T') : lftM xs T = lftM xs T' := by
  funext t; unfold lftM; simp only [h]

theorem idx_once {xs : List T4} (h : ∀ k, k < xs.length → xs.getD k zTerm ∉ xs.take k) {k : Nat} (hk : k < xs.length) : tmIdx xs (xs.getD k zTerm) = k := by
  have hm : xs.getD k zTerm ∈ xs := by
    have : xs.getD k zTerm = xs[k] := by simp [List.getD, hk]
    rw [this]; exact List.getElem_mem hk
  have hno := h k hk
  obtain ⟨t, ht⟩ : ∃ t, xs.getD k zTerm = t := ⟨_, rfl⟩
  rw [ht] at hm hno ⊢
  have h1 := tmIdx_lt hm
  have h2 := tmIdx_at hm
  rcases Nat.lt_trichotomy (tmIdx xs t) k with h3 | h3 | h3
  · refine absurd ?_ hno
    rw [List.mem_take_iff_getElem]
    refine ⟨tmIdx xs t, by omega, ?_⟩
    have e : xs.getD (tmIdx xs t) zTerm = xs[tmIdx xs t] := by simp [List.getD, h1]
    rw [← e]; exact h2
  · exact h3
  · exact absurd ht (tmIdx_not h3 hk)

theorem lftM_in {xs : List T4} (h : ∀ k, k < xs.length → xs.getD k zTerm ∉ xs.take k) {k : Nat} (hk : k < xs.length) (T : List Int) : lftM xs T (xs.getD k zTerm) = if (k : Int) ∈ T then none else some (k : Int) := by
  have hi := idx_once h hk
  have hm : xs.getD k zTerm ∈ xs := by
    have : xs.getD k zTerm = xs[k] := by simp [List.getD, hk]
    rw [this]; exact List.getElem_mem hk
  unfold lftM
  rw [hi]
  by_cases e : (k : Int) ∈ T
  · rw [if_pos e, if_neg (fun h => h.2 e)]
  · rw [if_neg e, if_pos ⟨hm, e⟩]

theorem lftM_nil (xs : List T4) : lftM xs [] = fun t => if t ∈ xs then some ((tmIdx xs t : Nat) : Int) else none := by
  funext t; unfold lftM; simp

theorem lftM_cons {xs : List T4} (h : ∀ k, k < xs.length → xs.getD k zTerm ∉ xs.take k) {k : Nat} (hk : k < xs.length) (T : List Int) : (fun s => if s = xs.getD k zTerm then none else lftM xs T s) = lftM xs ((k : Int) :: T) := by
  funext s
  have hi := idx_once h hk
  unfold lftM
  by_cases e : s = xs.getD k zTerm
  · rw [if_pos e, e, hi, if_neg (fun h => h.2 (by simp))]
  · rw [if_neg e]
    by_cases hs : s ∈ xs
    · have h2 := tmIdx_at hs
      have hne : ((tmIdx xs s : Nat) : Int) ≠ (k : Int) := fun e2 => e (by rw [← h2, show tmIdx xs s = k by omega])
      by_cases hT : ((tmIdx xs s : Nat) : Int) ∈ T
      · rw [if_neg (fun h => h.2 hT), if_neg (fun h => h.2 (by simp [hT]))]
      · rw [if_pos ⟨hs, hT⟩, if_pos ⟨hs, by simp [hne, hT]⟩]
    · rw [if_neg (fun h => hs h.1), if_neg (fun h => hs h.1)]

theorem nodup_len : ∀ (n : Nat) (ps : List Int), ps.Nodup → (∀ p ∈ ps, 0 ≤ p ∧ p < n) → ps.length ≤ n
  | 0, [], _, _ => Nat.le_refl _
  | 0, p :: ps, _, h => by have := h p (by simp); omega
  | n + 1, ps, hd, h => by
    by_cases hm : (n : Int) ∈ ps
    · have h1 := List.length_erase_of_mem hm
      have h2 : (ps.erase (n : Int)).Nodup := hd.erase _
      have h3 := nodup_len n (ps.erase (n : Int)) h2 (fun p hp => by
        have hp2 := (hd.mem_erase_iff).1 hp
        have := h p hp2.2
        have := hp2.1
        omega)
      have : 0 < ps.length := List.length_pos_of_mem hm
      omega
    · have := nodup_len n ps hd (fun p hp => by
        have h1 := h p hp
        have : p ≠ (n : Int) := fun e => hm (e ▸ hp)
        omega)
      omega

theorem Took.len {xs : List T4} (N : Names xs) {r : Nat} (hr : r < xs.length) {T ps : List Int} (h : Took xs r T ps) : ps.length ≤ r + 1 :=
  nodup_len (r + 1) ps h.once fun p hp => by
    obtain ⟨i, rfl, hi⟩ := h.part p hp
    have := hi.lt N hr
    omega

theorem Taking.len {xs : List T4} (N : Names xs) {r : Nat} (hr : r < xs.length) {T ps : List Int} {k : Nat} (h : Taking xs r T ps k) : ps.length ≤ r + 1 :=
  nodup_len (r + 1) ps h.once fun p hp => by
    obtain ⟨i, rfl, hi⟩ := h.part p hp
    have := hi.lt N hr
    omega

theorem names_of {xs : List T4} (h : Ahead xs) : Names xs := by
  intro k hk z hz
  obtain ⟨h1, h2⟩ := h k hk
  unfold plc at hz
  rcases kids_cases (xs.getD k zTerm).o with h3 | h3 | h3 <;> rw [h3] at hz h1 h2 <;> simp at hz h1 h2
  · subst hz; exact h1
  · rcases hz with rfl | rfl
    · exact h1
    · exact h2

end Go.Proofs.YthjaehcfakjemaaDoor
