/- Put together: TmZ, PlT. -/
import Derived.Test.YthjaehcfakjemaaDoorFmj
import Derived.Test.YthjaehcfakjemaaDoorSortI
import Derived.Test.YthjaehcfakjemaaDoorTmK
import Derived.Test.YthjaehcfakjemaaDoorTmG
import Derived.Test.YthjaehcfakjemaaDoorVar
import Derived.Test.YthjaehcfakjemaaDoorFmn
import Derived.Deep.DeepCutAuto

/- What a term is made of: its parts. -/
namespace Go.Proofs.YthjaehcfakjemaaDoor
open Go.RowKit

/-- A place that a term is made of. -/
inductive Rch (xs : List T4) (r : Nat) : Nat → Prop where
  | top : Rch xs r r
  | step {i j : Nat} : Rch xs r i → (j : Int) ∈ plc (xs.getD i zTerm) → Rch xs r j

/-- Each term's places are ahead of it. -/
def Names (xs : List T4) : Prop := ∀ k, k < xs.length → ∀ z ∈ plc (xs.getD k zTerm), 0 ≤ z ∧ z < k

theorem Rch.lt {xs : List T4} (N : Names xs) {r i : Nat} (hr : r < xs.length) (h : Rch xs r i) : i ≤ r := by
  induction h with
  | top => exact Nat.le_refl _
  | step h1 h2 ih => have := N _ (by omega) _ h2; omega

theorem Rch.trans {xs : List T4} {r i j : Nat} (h : Rch xs r i) (k : Rch xs i j) : Rch xs r j := by
  induction k with
  | top => exact h
  | step _ h2 ih => exact .step ih h2

/-- The marks behind k rounds from the top down. -/
def mks (xs : List T4) (r : Nat) : Nat → Nat → Bool
  | 0 => fun i => i == r
  | k + 1 => fun j => mks xs r k j || (mks xs r k (r - k) && (plc (xs.getD (r - k) zTerm)).any fun z => z == (j : Int))

theorem mks_mono {xs : List T4} {r k j : Nat} (h : mks xs r k j = true) : mks xs r (k + 1) j = true := by simp [mks, h]

theorem mks_le {xs : List T4} {r j k m : Nat} (h : k ≤ m) (h1 : mks xs r k j = true) : mks xs r m j = true := by
  induction m with
  | zero =>
    have e : k = 0 := by omega
    rw [e] at h1; exact h1
  | succ m ih =>
    rcases Nat.lt_or_ge m k with h2 | h2
    · have e : k = m + 1 := by omega
      rw [e] at h1; exact h1
    · exact mks_mono (ih h2)

theorem mks_rch {xs : List T4} {r : Nat} : ∀ k j, mks xs r k j = true → Rch xs r j
  | 0, j, h => by simp [mks] at h; subst h; exact .top
  | k + 1, j, h => by
    simp only [mks, Bool.or_eq_true, Bool.and_eq_true, List.any_eq_true] at h
    rcases h with h | ⟨h, z, hz, he⟩
    · exact mks_rch k j h
    · refine .step (mks_rch k _ h) ?_
      have : z = (j : Int) := by simpa using he
      rw [← this]; exact hz

/-- A mark at a place that has been gone by stays as it is. -/
theorem mks_old {xs : List T4} (N : Names xs) {r : Nat} (hr : r < xs.length) {k m j : Nat} (hk : r ≤ k + j) (hkm : k ≤ m) (h : mks xs r m j = true) : mks xs r k j = true := by
  induction m with
  | zero =>
    have e : k = 0 := by omega
    rw [e]; exact h
  | succ m ih =>
    rcases Nat.lt_or_ge m k with h2 | h2
    · have e : k = m + 1 := by omega
      rw [e]; exact h
    · refine ih h2 ?_
      simp only [mks, Bool.or_eq_true, Bool.and_eq_true, List.any_eq_true] at h
      rcases h with h | ⟨_, z, hz, he⟩
      · exact h
      · have h3 := N (r - m) (by omega) z hz
        have h4 : z = (j : Int) := by simpa using he
        omega

theorem rch_mks {xs : List T4} (N : Names xs) {r : Nat} (hr : r < xs.length) {j : Nat} (h : Rch xs r j) : mks xs r (r + 1) j = true := by
  induction h with
  | top => exact mks_le (Nat.zero_le _) (by simp [mks])
  | @step i j h1 h2 ih =>
    have hi := h1.lt N hr
    have hm : mks xs r (r - i) i = true := mks_old N hr (k := r - i) (m := r + 1) (j := i) (by omega) (by omega) ih
    refine mks_le (k := r - i + 1) (by omega) ?_
    simp only [mks, Bool.or_eq_true, Bool.and_eq_true, List.any_eq_true]
    right
    rw [show r - (r - i) = i by omega]
    exact ⟨hm, (j : Int), h2, by simp⟩

theorem mks_iff {xs : List T4} (N : Names xs) {r : Nat} (hr : r < xs.length) {j : Nat} : mks xs r (r + 1) j = true ↔ Rch xs r j := ⟨mks_rch _ _, rch_mks N hr⟩

/-- The places that a term is made of, rising. -/
@[irreducible] def prL (xs : List T4) (r : Nat) : List Int := ((List.range (r + 1)).filter fun i => mks xs r (r + 1) i).map fun i : Nat => (i : Int)

theorem prL_mem {xs : List T4} (N : Names xs) {r : Nat} (hr : r < xs.length) {z : Int} : z ∈ prL xs r ↔ ∃ i : Nat, z = (i : Int) ∧ Rch xs r i := by
  unfold prL
  rw [List.mem_map]
  constructor
  · rintro ⟨i, hi, rfl⟩
    rw [List.mem_filter] at hi
    exact ⟨i, rfl, (mks_iff N hr).1 hi.2⟩
  · rintro ⟨i, rfl, hi⟩
    refine ⟨i, ?_, rfl⟩
    rw [List.mem_filter]
    have := hi.lt N hr
    exact ⟨List.mem_range.2 (by omega), (mks_iff N hr).2 hi⟩

theorem prL_rising (xs : List T4) (r : Nat) : (prL xs r).Pairwise (fun x y => x < y) := by
  unfold prL
  rw [List.pairwise_map]
  exact (List.pairwise_lt_range.filter _).imp (fun h => by omega)

theorem prL_len (xs : List T4) (r : Nat) : (prL xs r).length ≤ r + 1 := by
  unfold prL
  rw [List.length_map]
  have := List.length_filter_le (fun i => mks xs r (r + 1) i) (List.range (r + 1))
  simpa using this

/-- Two rising lists of the same numbers are one. -/
theorem rising_eq : ∀ (xs ys : List Int), xs.Pairwise (fun x y => x < y) → ys.Pairwise (fun x y => x < y) → (∀ z, z ∈ xs ↔ z ∈ ys) → xs = ys
  | [], [], _, _, _ => rfl
  | [], y :: ys, _, _, h => by have := (h y).2 (by simp); cases this
  | x :: xs, [], _, _, h => by have := (h x).1 (by simp); cases this
  | x :: xs, y :: ys, hx, hy, h => by
    obtain ⟨hx1, hx2⟩ := List.pairwise_cons.1 hx
    obtain ⟨hy1, hy2⟩ := List.pairwise_cons.1 hy
    have e : x = y := by
      have h1 := (h x).1 (by simp)
      have h2 := (h y).2 (by simp)
      rcases List.mem_cons.1 h1 with e | h1
      · exact e
      · rcases List.mem_cons.1 h2 with e | h2
        · exact e.symm
        · have := hy1 x h1; have := hx1 y h2; omega
    subst e
    rw [rising_eq xs ys hx2 hy2 (fun z => ?_)]
    constructor
    · intro hz
      rcases List.mem_cons.1 ((h z).1 (List.mem_cons_of_mem _ hz)) with e | h1
      · subst e; have := hx1 z hz; omega
      · exact h1
    · intro hz
      rcases List.mem_cons.1 ((h z).2 (List.mem_cons_of_mem _ hz)) with e | h1
      · subst e; have := hy1 z hz; omega
      · exact h1

theorem igetD_mem {l : List Int} {k : Nat} (h : k < l.length) : l.getD k 0 ∈ l := by simp [List.getD, h]

theorem igetD_some {l : List Int} {k : Nat} (h : k < l.length) : l[k]? = some (l.getD k 0) := by simp [List.getD, h]

/-- What a walk downwards takes: each place once, all of them parts, the top among them, and with each what it names. -/
structure Took (xs : List T4) (r : Nat) (T ps : List Int) : Prop where
  once : ps.Nodup
  new : ∀ p ∈ ps, p ∉ T
  part : ∀ p ∈ ps, ∃ i : Nat, p = (i : Int) ∧ Rch xs r i
  top : (r : Int) ∈ ps ++ T
  shut : ∀ p ∈ ps, ∀ z ∈ plc (xs.getD p.toNat zTerm), z ∈ ps ++ T

/-- .. in the midst of it: the first k of what the top names are done. -/
structure Taking (xs : List T4) (r : Nat) (T ps : List Int) (k : Nat) : Prop where
  once : ps.Nodup
  new : ∀ p ∈ ps, p ∉ T
  part : ∀ p ∈ ps, ∃ i : Nat, p = (i : Int) ∧ Rch xs r i
  top : (r : Int) ∈ ps
  shut : ∀ p ∈ ps, p ≠ (r : Int) → ∀ z ∈ plc (xs.getD p.toNat zTerm), z ∈ ps ++ T
  own : ∀ z ∈ (plc (xs.getD r zTerm)).take k, z ∈ ps ++ T

theorem Taking.start {xs : List T4} {r : Nat} {T : List Int} (h : (r : Int) ∉ T) : Taking xs r T [(r : Int)] 0 :=
  ⟨by simp, by simpa using h, fun p hp => ⟨r, by simpa using hp, .top⟩, by simp, fun p hp hne => absurd (by simpa using hp) hne, by simp⟩

theorem Taking.next {xs : List T4} {r : Nat} {T ps qs : List Int} {k : Nat} {j : Nat} (h : Taking xs r T ps k) (hk : k < (plc (xs.getD r zTerm)).length) (hj : (plc (xs.getD r zTerm)).getD k 0 = (j : Int)) (q : Took xs j (ps ++ T) qs) : Taking xs r T (ps ++ qs) (k + 1) := by
  have hm : (j : Int) ∈ plc (xs.getD r zTerm) := by rw [← hj]; exact igetD_mem hk
  refine ⟨?_, ?_, ?_, by simp [h.top], ?_, ?_⟩
  · rw [List.nodup_append]
    exact ⟨h.once, q.once, fun a ha b hb e => by subst e; exact q.new a hb (by simp [ha])⟩
  · intro p hp
    rcases List.mem_append.1 hp with hp | hp
    · exact h.new p hp
    · exact fun e => q.new p hp (by simp [e])
  · intro p hp
    rcases List.mem_append.1 hp with hp | hp
    · exact h.part p hp
    · obtain ⟨i, e, hi⟩ := q.part p hp
      exact ⟨i, e, (Rch.step .top hm).trans hi⟩
  · intro p hp hne z hz
    rcases List.mem_append.1 hp with hp | hp
    · have := h.shut p hp hne z hz; simp at this ⊢; rcases this with h1 | h1 <;> simp [h1]
    · have := q.shut p hp z hz; simp at this ⊢; rcases this with h1 | h1 | h1 <;> simp [h1]
  · intro z hz
    rw [List.take_add_one] at hz
    rcases List.mem_append.1 hz with hz | hz
    · have := h.own z hz; simp at this ⊢; rcases this with h1 | h1 <;> simp [h1]
    · have e : (plc (xs.getD r zTerm))[k]? = some (j : Int) := by rw [← hj]; exact igetD_some hk
      rw [e] at hz
      have : z = (j : Int) := by simpa using hz
      subst this
      have := q.top; simp at this ⊢; rcases this with h1 | h1 | h1 <;> simp [h1]

theorem Taking.done {xs : List T4} {r : Nat} {T ps : List Int} {k : Nat} (h : Taking xs r T ps k) (hk : (plc (xs.getD r zTerm)).length ≤ k) : Took xs r T ps := by
  refine ⟨h.once, h.new, h.part, by simp [h.top], fun p hp z hz => ?_⟩
  by_cases e : p = (r : Int)
  · subst e
    rw [Int.toNat_natCast] at hz
    exact h.own z (by rw [List.take_of_length_le hk]; exact hz)
  · exact h.shut p hp e z hz

theorem Took.none {xs : List T4} {r : Nat} {T : List Int} (h : (r : Int) ∈ T) : Took xs r T [] := ⟨by simp, by simp, by simp, by simpa using h, by simp⟩

/-- All that a term is made of has been taken, and nothing else. -/
theorem Took.all {xs : List T4} (N : Names xs) {r : Nat} (hr : r < xs.length) {ps : List Int} (h : Took xs r [] ps) : srt ps = prL xs r := by
  have hmem : ∀ z, z ∈ ps ↔ z ∈ prL xs r := by
    intro z
    rw [prL_mem N hr]
    constructor
    · exact h.part z
    · rintro ⟨i, rfl, hi⟩
      induction hi with
      | top => simpa using h.top
      | @step a b h1 h2 ih =>
        have := h.shut _ ih (b : Int) (by rw [Int.toNat_natCast]; exact h2)
        simpa using this
  refine rising_eq _ _ ?_ (prL_rising xs r) (fun z => by rw [srt_mem]; exact hmem z)
  have h1 := srt_rising ps
  have h2 : (srt ps).Nodup := (srt_perm ps).nodup_iff.2 h.once
  have h3 := h1.and h2
  exact h3.imp (fun h => by omega)

/-- What is left of a table's places. -/
def lftM (xs : List T4) (T : List Int) : T4 → Option Int := fun t => if t ∈ xs ∧ ((tmIdx xs t : Nat) : Int) ∉ T then some (tmIdx xs t : Nat) else none

theorem lftM_same {xs : List T4} {T T' : List Int} (h : ∀ z, z ∈ T ↔ z ∈ T') : lftM xs T = lftM xs T' := by
  funext t; unfold lftM; simp only [h]

theorem idx_once {xs : List T4} (h : ∀ k, k < xs.length → xs.getD k zTerm ∉ xs.take k) {k : Nat} (hk : k < xs.length) : tmIdx xs (xs.getD k zTerm) = k := by
  have hm : xs.getD k zTerm ∈ xs := by
    have : xs.getD k zTerm = xs[k] := by simp [List.getD, hk]
    rw [this]; exact List.getElem_mem hk
  have hno := h k hk
  obtain ⟨t, ht⟩ : ∃ t, xs.getD k zTerm = t := ⟨_, rfl⟩
  rw [ht] at hm hno ⊢
  have h1 := tmIdx_lt hm
  have h2 := tmIdx_at hm
  rcases Nat.lt_trichotomy (tmIdx xs t) k with h3 | h3 | h3
  · refine absurd ?_ hno
    rw [List.mem_take_iff_getElem]
    refine ⟨tmIdx xs t, by omega, ?_⟩
    have e : xs.getD (tmIdx xs t) zTerm = xs[tmIdx xs t] := by simp [List.getD, h1]
    rw [← e]; exact h2
  · exact h3
  · exact absurd ht (tmIdx_not h3 hk)

theorem lftM_in {xs : List T4} (h : ∀ k, k < xs.length → xs.getD k zTerm ∉ xs.take k) {k : Nat} (hk : k < xs.length) (T : List Int) : lftM xs T (xs.getD k zTerm) = if (k : Int) ∈ T then none else some (k : Int) := by
  have hi := idx_once h hk
  have hm : xs.getD k zTerm ∈ xs := by
    have : xs.getD k zTerm = xs[k] := by simp [List.getD, hk]
    rw [this]; exact List.getElem_mem hk
  unfold lftM
  rw [hi]
  by_cases e : (k : Int) ∈ T
  · rw [if_pos e, if_neg (fun h => h.2 e)]
  · rw [if_neg e, if_pos ⟨hm, e⟩]

theorem lftM_nil (xs : List T4) : lftM xs [] = fun t => if t ∈ xs then some ((tmIdx xs t : Nat) : Int) else none := by
  funext t; unfold lftM; simp

theorem lftM_cons {xs : List T4} (h : ∀ k, k < xs.length → xs.getD k zTerm ∉ xs.take k) {k : Nat} (hk : k < xs.length) (T : List Int) : (fun s => if s = xs.getD k zTerm then none else lftM xs T s) = lftM xs ((k : Int) :: T) := by
  funext s
  have hi := idx_once h hk
  unfold lftM
  by_cases e : s = xs.getD k zTerm
  · rw [if_pos e, e, hi, if_neg (fun h => h.2 (by simp))]
  · rw [if_neg e]
    by_cases hs : s ∈ xs
    · have h2 := tmIdx_at hs
      have hne : ((tmIdx xs s : Nat) : Int) ≠ (k : Int) := fun e2 => e (by rw [← h2, show tmIdx xs s = k by omega])
      by_cases hT : ((tmIdx xs s : Nat) : Int) ∈ T
      · rw [if_neg (fun h => h.2 hT), if_neg (fun h => h.2 (by simp [hT]))]
      · rw [if_pos ⟨hs, hT⟩, if_pos ⟨hs, by simp [hne, hT]⟩]
    · rw [if_neg (fun h => hs h.1), if_neg (fun h => hs h.1)]

theorem nodup_len : ∀ (n : Nat) (ps : List Int), ps.Nodup → (∀ p ∈ ps, 0 ≤ p ∧ p < n) → ps.length ≤ n
  | 0, [], _, _ => Nat.le_refl _
  | 0, p :: ps, _, h => by have := h p (by simp); omega
  | n + 1, ps, hd, h => by
    by_cases hm : (n : Int) ∈ ps
    · have h1 := List.length_erase_of_mem hm
      have h2 : (ps.erase (n : Int)).Nodup := hd.erase _
      have h3 := nodup_len n (ps.erase (n : Int)) h2 (fun p hp => by
        have hp2 := (hd.mem_erase_iff).1 hp
        have := h p hp2.2
        have := hp2.1
        omega)
      have : 0 < ps.length := List.length_pos_of_mem hm
      omega
    · have := nodup_len n ps hd (fun p hp => by
        have h1 := h p hp
        have : p ≠ (n : Int) := fun e => hm (e ▸ hp)
        omega)
      omega

theorem Took.len {xs : List T4} (N : Names xs) {r : Nat} (hr : r < xs.length) {T ps : List Int} (h : Took xs r T ps) : ps.length ≤ r + 1 :=
  nodup_len (r + 1) ps h.once fun p hp => by
    obtain ⟨i, rfl, hi⟩ := h.part p hp
    have := hi.lt N hr
    omega

theorem Taking.len {xs : List T4} (N : Names xs) {r : Nat} (hr : r < xs.length) {T ps : List Int} {k : Nat} (h : Taking xs r T ps k) : ps.length ≤ r + 1 :=
  nodup_len (r + 1) ps h.once fun p hp => by
    obtain ⟨i, rfl, hi⟩ := h.part p hp
    have := hi.lt N hr
    omega

theorem names_of {xs : List T4} (h : Ahead xs) : Names xs := by
  intro k hk z hz
  obtain ⟨h1, h2⟩ := h k hk
  unfold plc at hz
  rcases kids_cases (xs.getD k zTerm).o with h3 | h3 | h3 <;> rw [h3] at hz h1 h2 <;> simp at hz h1 h2
  · subst hz; exact h1
  · rcases hz with rfl | rfl
    · exact h1
    · exact h2

end Go.Proofs.YthjaehcfakjemaaDoor

/- The places that a term names, as they are told: the secrets of a both by their numbers. -/
namespace Go.Proofs.YthjaehcfakjemaaDoor
open Go.RowKit

theorem grownSetI (w : World) (p : Addr) (v : Value) : w.grownBy (w.setCell p v) (some p.block) :=
  ⟨rfl, rfl, rfl, by simp [World.setCell], fun k _ hk => Below.heap_setCell _ _ _ _ (fun e => hk (by rw [e]))⟩

theorem OwnI.store {w : World} {base g cap : Nat} {zs : List Int} (h : Own .i64 2 w base (some ⟨g, 0, Option.none⟩) cap zs) (j : Nat) (u : Int) : Own .i64 2 (w.setCell ⟨g, j, Option.none⟩ (.int .i64 u)) base (some ⟨g, 0, Option.none⟩) cap (zs.set j u) := by
  have h2 := (h.stored j (.int .i64 u)).1
  rw [set_map] at h2
  exact Own.mk h2 (by simp)

theorem OwnI.cellAt {w : World} {base g cap : Nat} {zs : List Int} (h : Own .i64 2 w base (some ⟨g, 0, Option.none⟩) cap zs) (j : Nat) (hj : j < zs.length) : w.cell? ⟨g, j, Option.none⟩ = some (.int .i64 (zs.getD j 0)) := by
  rw [World.ownsRow.cellAt h j (by simpa using hj)]
  simp [List.getD, hj]

set_option maxRecDepth 20000 in
set_option maxHeartbeats 4000000 in
theorem reverse2_ok (base g cap : Nat) (u v : Int) (w : World) (O : Own .i64 2 w base (some ⟨g, 0, none⟩) cap [u, v]) :
    Calls Tryd.prog 70 #[.slice (some ⟨g, 0, none⟩) 2 cap] w fun e w' => e = .returned (.tuple #[]) ∧ Own .i64 2 w' base (some ⟨g, 0, none⟩) cap [v, u] ∧ w.grownBy w' (some g) := by
  have O0 := Hid.mk O
  clear O
  go_enter Tryd.func70, Tryd.ntmps70
  go_wp2
  go_loopw [2, 3] (fun i j wr => (i = .int .i64 0 ∧ j = .int .i64 1 ∧ wr = w) ∨ (i = .int .i64 1 ∧ j = .int .i64 0 ∧ Own .i64 2 wr base (some ⟨g, 0, none⟩) cap [v, u] ∧ w.grownBy wr (some g))) (fun i _ _ => 2 - (intOf i).toNat)
  case atStart => exact .inl ⟨rfl, rfl, rfl⟩
  case round =>
    rcases hrel with ⟨rfl, rfl, hww⟩ | ⟨rfl, rfl, O, G⟩
    · subst hww
      have O := O0.out
      have G := World.grownBy.refl wr (some g)
      go_upto_region 3 with fail
      refine wp_region_any (by kernel_rfl) ?_
      change wpAny _ _ _ _ _ _ _ wr.drew
      have bd : Below wr.heap.size wr wr.drew := (Below.refl _ _).drew
      replace O := O.kept bd
      replace G := grownBy_trans G (Below.grownBy bd _)
      clear bd
      generalize wr.drew = wd at *
      refine wpAny_take (i := 0) (oi := _) (v := ?vtt1) rfl (by kernel_rfl) (by kernel_rfl) (by kernel_rfl) (fun _ _ _ h => h) (Or.inl ⟨by rfl, ?hytt1⟩) ?resttt1
      case hytt1 => (intro w; go_simp; first | done | with_reducible rfl)
      try simp only [Act.put, List.getElem_toArray, List.getElem_cons_zero, List.setIfInBounds_toArray, List.set_cons_zero, List.set_cons_succ]
      refine wpAny_take (i := 1) (oi := _) (v := ?vtt2) rfl (by kernel_rfl) (by kernel_rfl) (by kernel_rfl) (fun _ _ _ h => h) (Or.inl ⟨by rfl, ?hytt2⟩) ?resttt2
      case hytt2 => (intro w; go_simp; first | done | with_reducible rfl)
      try simp only [Act.put, List.getElem_toArray, List.getElem_cons_zero, List.getElem_cons_succ, List.setIfInBounds_toArray, List.set_cons_zero, List.set_cons_succ]
      refine wpAny_take (i := 4) (oi := _) (v := ?vtt3) rfl (by kernel_rfl) (by kernel_rfl) (by kernel_rfl) (fun _ _ _ h => h) (Or.inl ⟨by rfl, ?hytt3⟩) ?resttt3
      case hytt3 => (intro w; go_simp; first | done | with_reducible rfl)
      try simp only [Act.put, List.getElem_toArray, List.getElem_cons_zero, List.getElem_cons_succ, List.setIfInBounds_toArray, List.set_cons_zero, List.set_cons_succ]
      refine wpAny_take (i := 5) (oi := _) (v := ?vtt4) rfl (by kernel_rfl) (by kernel_rfl) (by kernel_rfl) (fun _ _ _ h => h) (Or.inl ⟨by rfl, ?hytt4⟩) ?resttt4
      case hytt4 => (intro w; go_simp; first | done | with_reducible rfl)
      try simp only [Act.put, List.getElem_toArray, List.getElem_cons_zero, List.getElem_cons_succ, List.setIfInBounds_toArray, List.set_cons_zero, List.set_cons_succ]
      refine wpAny_take (i := 6) (oi := _) (v := ?vtt5) rfl (by kernel_rfl) (by kernel_rfl) (by kernel_rfl) (fun _ _ _ h => h) (Or.inl ⟨by rfl, ?hytt5⟩) ?resttt5
      case hytt5 => (intro w; go_simp; first | done | with_reducible rfl)
      try simp only [Act.put, List.getElem_toArray, List.getElem_cons_zero, List.getElem_cons_succ, List.setIfInBounds_toArray, List.set_cons_zero, List.set_cons_succ]
      refine wpAny_take (i := 2) (oi := _) (v := ?vtt6) rfl (by kernel_rfl) (by kernel_rfl) (by kernel_rfl) (fun _ _ _ h => h) (Or.inl ⟨by rfl, ?hytt6⟩) ?resttt6
      case hytt6 => (intro w; go_simp; first | done | with_reducible rfl)
      try simp only [Act.put, List.getElem_toArray, List.getElem_cons_zero, List.getElem_cons_succ, List.setIfInBounds_toArray, List.set_cons_zero, List.set_cons_succ]
      refine wpAny_take (i := 3) (oi := _) (v := ?vtt7) rfl (by kernel_rfl) (by kernel_rfl) (by kernel_rfl) (fun _ _ _ h => h) (Or.inl ⟨by rfl, ?hytt7⟩) ?resttt7
      case hytt7 => (intro w; go_simp; first | done | with_reducible rfl)
      try simp only [Act.put, List.getElem_toArray, List.getElem_cons_zero, List.getElem_cons_succ, List.setIfInBounds_toArray, List.set_cons_zero, List.set_cons_succ]
      refine wpAny_take (i := 8) (oi := _) (v := ?vtt8) rfl (by kernel_rfl) (by kernel_rfl) (by kernel_rfl) (fun _ _ _ h => h) (Or.inl ⟨by rfl, ?hytt8⟩) ?resttt8
      case hytt8 => (intro w; go_simp; first | done | with_reducible rfl)
      try simp only [Act.put, List.getElem_toArray, List.getElem_cons_zero, List.getElem_cons_succ, List.setIfInBounds_toArray, List.set_cons_zero, List.set_cons_succ]
      refine wpAny_take (i := 9) (oi := _) (v := ?vtt9) rfl (by kernel_rfl) (by kernel_rfl) (by kernel_rfl) (fun _ _ _ h => h) (Or.inl ⟨by rfl, ?hytt9⟩) ?resttt9
      case hytt9 => (intro w; go_simp; first | done | with_reducible rfl)
      try simp only [Act.put, List.getElem_toArray, List.getElem_cons_zero, List.getElem_cons_succ, List.setIfInBounds_toArray, List.set_cons_zero, List.set_cons_succ]
      refine wpAny_take (i := 10) (oi := _) (v := ?vtt10) rfl (by kernel_rfl) (by kernel_rfl) (by kernel_rfl) (fun _ _ _ h => h) (Or.inl ⟨by rfl, ?hytt10⟩) ?resttt10
      case hytt10 => (intro w; go_simp; first | done | with_reducible rfl)
      try simp only [Act.put, List.getElem_toArray, List.getElem_cons_zero, List.getElem_cons_succ, List.setIfInBounds_toArray, List.set_cons_zero, List.set_cons_succ]
      refine wpAny_ready (rs := [7, 11]) (by kernel_rfl) (by simp) ?_
      refine AllReady.cons (o := _) rfl (fun K0 hK0 => ?_) (AllReady.cons (o := _) rfl (fun K0 hK0 => ?_) AllReady.nil)
      · skip
        have c1 := OwnI.cellAt O 1 (by simp)
        simp only [List.getD_cons_zero, List.getD_cons_succ] at c1
        go_simp
        refine hK0 _ _ ?_
        clear hK0 K0 c1
        try simp only [Act.put, List.getElem_toArray, List.getElem_cons_zero, List.getElem_cons_succ, List.setIfInBounds_toArray, List.set_cons_zero, List.set_cons_succ]
        refine wpAny_ready (rs := [11]) (by kernel_rfl) (by simp) ?_
        refine AllReady.cons (o := _) rfl (fun K0 hK0 => ?_) AllReady.nil
        have c1 := OwnI.cellAt O 0 (by simp)
        simp only [List.getD_cons_zero] at c1
        go_simp
        refine hK0 _ _ ?_
        clear hK0 K0 c1
        try simp only [Act.put, List.getElem_toArray, List.getElem_cons_zero, List.getElem_cons_succ, List.setIfInBounds_toArray, List.set_cons_zero, List.set_cons_succ]
        refine wpAny_take (i := 12) (oi := _) (v := ?vtt11) rfl (by kernel_rfl) (by kernel_rfl) (by kernel_rfl) (fun _ _ _ h => h) (Or.inl ⟨by rfl, ?hytt11⟩) ?resttt11
        case hytt11 => (intro w; go_simp; first | done | with_reducible rfl)
        try simp only [Act.put, List.getElem_toArray, List.getElem_cons_zero, List.getElem_cons_succ, List.setIfInBounds_toArray, List.set_cons_zero, List.set_cons_succ]
        refine wpAny_ready (rs := [13]) (by kernel_rfl) (by simp) ?_
        refine AllReady.cons (o := _) rfl (fun K0 hK0 => ?_) AllReady.nil
        have c1 := OwnI.cellAt O 0 (by simp)
        have zF := World.ownsRow.frozenAt O 0
        simp only [List.getD_cons_zero] at c1
        go_simp
        refine hK0 _ _ ?_
        clear hK0 K0 c1 zF
        try simp only [Act.put, List.getElem_toArray, List.getElem_cons_zero, List.getElem_cons_succ, List.setIfInBounds_toArray, List.set_cons_zero, List.set_cons_succ]
        replace O := OwnI.store O 0 v
        simp only [List.set_cons_zero] at O
        replace G := grownBy_trans G (grownSetI wd ⟨g, 0, none⟩ (.int .i64 v))
        generalize wd.setCell ⟨g, 0, none⟩ (.int .i64 v) = ws1 at *
        refine wpAny_take (i := 14) (oi := _) (v := ?vtt12) rfl (by kernel_rfl) (by kernel_rfl) (by kernel_rfl) (fun _ _ _ h => h) (Or.inl ⟨by rfl, ?hytt12⟩) ?resttt12
        case hytt12 => (intro w; go_simp; first | done | with_reducible rfl)
        try simp only [Act.put, List.getElem_toArray, List.getElem_cons_zero, List.getElem_cons_succ, List.setIfInBounds_toArray, List.set_cons_zero, List.set_cons_succ]
        refine wpAny_ready (rs := [15]) (by kernel_rfl) (by simp) ?_
        refine AllReady.cons (o := _) rfl (fun K0 hK0 => ?_) AllReady.nil
        have c1 := OwnI.cellAt O 1 (by simp)
        have zF := World.ownsRow.frozenAt O 1
        simp only [List.getD_cons_zero, List.getD_cons_succ] at c1
        go_simp
        refine hK0 _ _ ?_
        clear hK0 K0 c1 zF
        try simp only [Act.put, List.getElem_toArray, List.getElem_cons_zero, List.getElem_cons_succ, List.setIfInBounds_toArray, List.set_cons_zero, List.set_cons_succ]
        replace O := OwnI.store O 1 u
        simp only [List.set_cons_zero, List.set_cons_succ] at O
        replace G := grownBy_trans G (grownSetI ws1 ⟨g, 1, none⟩ (.int .i64 u))
        generalize ws1.setCell ⟨g, 1, none⟩ (.int .i64 u) = ws2 at *
        refine wpAny_done (by kernel_rfl) ?_ _
        have O9 := Hid.mk O
        have G9 := Hid.mk G
        clear O G
        go_wp2
        go_roundw
        case rel => exact .inr ⟨rfl, rfl, O9.out, G9.out⟩
        case measure => (simp [intOf])
      · skip
        have c1 := OwnI.cellAt O 0 (by simp)
        simp only [List.getD_cons_zero] at c1
        go_simp
        refine hK0 _ _ ?_
        clear hK0 K0 c1
        try simp only [Act.put, List.getElem_toArray, List.getElem_cons_zero, List.getElem_cons_succ, List.setIfInBounds_toArray, List.set_cons_zero, List.set_cons_succ]
        refine wpAny_ready (rs := [7]) (by kernel_rfl) (by simp) ?_
        refine AllReady.cons (o := _) rfl (fun K0 hK0 => ?_) AllReady.nil
        have c1 := OwnI.cellAt O 1 (by simp)
        simp only [List.getD_cons_zero, List.getD_cons_succ] at c1
        go_simp
        refine hK0 _ _ ?_
        clear hK0 K0 c1
        try simp only [Act.put, List.getElem_toArray, List.getElem_cons_zero, List.getElem_cons_succ, List.setIfInBounds_toArray, List.set_cons_zero, List.set_cons_succ]
        refine wpAny_take (i := 12) (oi := _) (v := ?vtt13) rfl (by kernel_rfl) (by kernel_rfl) (by kernel_rfl) (fun _ _ _ h => h) (Or.inl ⟨by rfl, ?hytt13⟩) ?resttt13
        case hytt13 => (intro w; go_simp; first | done | with_reducible rfl)
        try simp only [Act.put, List.getElem_toArray, List.getElem_cons_zero, List.getElem_cons_succ, List.setIfInBounds_toArray, List.set_cons_zero, List.set_cons_succ]
        refine wpAny_ready (rs := [13]) (by kernel_rfl) (by simp) ?_
        refine AllReady.cons (o := _) rfl (fun K0 hK0 => ?_) AllReady.nil
        have c1 := OwnI.cellAt O 0 (by simp)
        have zF := World.ownsRow.frozenAt O 0
        simp only [List.getD_cons_zero] at c1
        go_simp
        refine hK0 _ _ ?_
        clear hK0 K0 c1 zF
        try simp only [Act.put, List.getElem_toArray, List.getElem_cons_zero, List.getElem_cons_succ, List.setIfInBounds_toArray, List.set_cons_zero, List.set_cons_succ]
        replace O := OwnI.store O 0 v
        simp only [List.set_cons_zero] at O
        replace G := grownBy_trans G (grownSetI wd ⟨g, 0, none⟩ (.int .i64 v))
        generalize wd.setCell ⟨g, 0, none⟩ (.int .i64 v) = ws1 at *
        refine wpAny_take (i := 14) (oi := _) (v := ?vtt14) rfl (by kernel_rfl) (by kernel_rfl) (by kernel_rfl) (fun _ _ _ h => h) (Or.inl ⟨by rfl, ?hytt14⟩) ?resttt14
        case hytt14 => (intro w; go_simp; first | done | with_reducible rfl)
        try simp only [Act.put, List.getElem_toArray, List.getElem_cons_zero, List.getElem_cons_succ, List.setIfInBounds_toArray, List.set_cons_zero, List.set_cons_succ]
        refine wpAny_ready (rs := [15]) (by kernel_rfl) (by simp) ?_
        refine AllReady.cons (o := _) rfl (fun K0 hK0 => ?_) AllReady.nil
        have c1 := OwnI.cellAt O 1 (by simp)
        have zF := World.ownsRow.frozenAt O 1
        simp only [List.getD_cons_zero, List.getD_cons_succ] at c1
        go_simp
        refine hK0 _ _ ?_
        clear hK0 K0 c1 zF
        try simp only [Act.put, List.getElem_toArray, List.getElem_cons_zero, List.getElem_cons_succ, List.setIfInBounds_toArray, List.set_cons_zero, List.set_cons_succ]
        replace O := OwnI.store O 1 u
        simp only [List.set_cons_zero, List.set_cons_succ] at O
        replace G := grownBy_trans G (grownSetI ws1 ⟨g, 1, none⟩ (.int .i64 u))
        generalize ws1.setCell ⟨g, 1, none⟩ (.int .i64 u) = ws2 at *
        refine wpAny_done (by kernel_rfl) ?_ _
        have O9 := Hid.mk O
        have G9 := Hid.mk G
        clear O G
        go_wp2
        go_roundw
        case rel => exact .inr ⟨rfl, rfl, O9.out, G9.out⟩
        case measure => (simp [intOf])
    · have O9 := Hid.mk O
      have G9 := Hid.mk G
      clear O G
      go_wp2
      go_end0
      exact ⟨rfl, O9.out, G9.out⟩

/-- A place that a term names is of its size at most. -/
theorem sz_kid {xs : List T4} (hv : tfC xs = 0) {k : Nat} (hk : k < xs.length) {x : T4} (hx : xs.getD k zTerm = x) (hs : (den xs k).sz ≤ 200) : (0 < kids x.o → (den xs x.a.toNat).sz ≤ 200) ∧ (1 < kids x.o → (den xs x.b.toNat).sz ≤ 200) := by
  rw [sz_step k hk (tfC_ahead hv) hx] at hs
  have h1 := (den xs x.a.toNat).sz_in
  have h2 := (den xs x.b.toNat).sz_in
  refine ⟨fun e => ?_, fun e => ?_⟩
  · rw [if_pos e] at hs
    split at hs <;> omega
  · rw [if_pos e, if_pos (by omega)] at hs
    omega

/-- The places that a term names, in the order in which they are told. -/
@[irreducible] def plD (xs : List T4) (x : T4) : List Int := if x.o = 7 ∧ (xs.getD x.b.toNat zTerm).n < (xs.getD x.a.toNat zTerm).n then [x.b, x.a] else plc x

theorem plD_len (xs : List T4) (x : T4) : (plD xs x).length = (plc x).length := by
  unfold plD
  split
  · rename_i h
    unfold plc
    rw [h.1, kids7]; rfl
  · rfl

theorem plD_small (xs : List T4) (x : T4) : (plD xs x).length ≤ 2 := by
  rw [plD_len]; unfold plc
  split
  · simp
  · split <;> simp

theorem plD_in {xs : List T4} (hv : tfC xs = 0) {k : Nat} (hk : k < xs.length) {x : T4} (hx : xs.getD k zTerm = x) (hs : (den xs k).sz ≤ 200) : ∀ p ∈ plD xs x, ∃ i : Nat, p = i ∧ i < k ∧ (den xs i).sz ≤ 200 := by
  have h1 := plc_ahead k hk (tfC_ahead hv) hx
  obtain ⟨s1, s2⟩ := sz_kid hv hk hx hs
  have h2 : ∀ p ∈ plD xs x, p ∈ plc x := by
    intro p hp
    unfold plD at hp
    split at hp
    · rename_i h
      unfold plc
      rw [h.1, kids7, if_pos rfl]
      simp only [List.mem_cons, List.not_mem_nil, or_false] at hp ⊢
      omega
    · exact hp
  intro p hp
  have h3 := h2 p hp
  have h4 := h1 p h3
  refine ⟨p.toNat, by omega, by omega, ?_⟩
  unfold plc at h3
  rcases kids_cases x.o with q | q | q
  · rw [q] at h3; simp at h3
  · rw [q] at h3; simp at h3; subst h3; exact s1 (by omega)
  · rw [q] at h3; simp at h3
    rcases h3 with rfl | rfl
    · exact s1 (by omega)
    · exact s2 (by omega)

theorem igetD_at {w : World} {a : Option Addr} {zs : List Int} (h : Rd .i64 w a zs) (q : Nat) (hq : q < zs.length) : ∃ b o, a = some ⟨b, o, Option.none⟩ ∧ w.cell? ⟨b, o + q, Option.none⟩ = some (.int .i64 (zs.getD q 0)) := by
  rcases h with h | ⟨b, o, h, hc⟩
  · subst h; simp at hq
  · exact ⟨b, o, h, hc q hq⟩

set_option maxRecDepth 20000 in
set_option maxHeartbeats 4000000 in
theorem placesTold_ok (a : Option Addr) (n ca : Nat) (xs : List T4) (hv : tfC xs = 0) (hn : xs.length = n) (k : Nat) (hk : k < n) (x : T4) (hx : xs.getD k zTerm = x) (w : World) (ha : RdTerm w a xs) :
    Calls Tryd.prog 57 #[.slice a n ca, .agg #[.int .i64 x.o, .int .i64 x.a, .int .i64 x.b, .int .i64 x.n]] w fun e w' => ∃ c d, e = .returned (.slice c (plD xs x).length d) ∧ Own .i64 2 w' w.heap.size c d (plD xs x) ∧ Below w.heap.size w w' := by
  have ho := op_right hv k (by omega) hx
  have CP := Hid.mk (fun w => placesIn_ok x ho w)
  rw [plD_len]
  by_cases h7 : x.o = 7
  · obtain ⟨k1, k2⟩ := tfC_ahead hv k (by omega)
    rw [hx, h7, kids7] at k1 k2
    obtain ⟨a1, a2⟩ := k1 (by decide)
    obtain ⟨c1, c2⟩ := k2 (by decide)
    obtain ⟨i, hi⟩ := Int.eq_ofNat_of_zero_le a1
    obtain ⟨j, hj⟩ := Int.eq_ofNat_of_zero_le c1
    have hpl : plc x = [(i : Int), (j : Int)] := by unfold plc; rw [h7, kids7, if_pos rfl, hi, hj]
    have hpt : plD xs x = if (xs.getD j zTerm).n < (xs.getD i zTerm).n then [(j : Int), (i : Int)] else [(i : Int), (j : Int)] := by
      unfold plD
      rw [hpl, hi, hj, Int.toNat_natCast, Int.toNat_natCast]
      simp only [h7, true_and]
    rw [hpl] at CP ⊢
    rw [hpt]
    have hin : i < n := by omega
    have hjn : j < n := by omega
    have hil : (i : Int) < (n : Int) := by omega
    have hjl : (j : Int) < (n : Int) := by omega
    obtain ⟨b1, o1, rfl⟩ := RdTerm.addr ha (by omega)
    obtain ⟨yi, hyi⟩ : ∃ y, xs.getD i zTerm = y := ⟨_, rfl⟩
    obtain ⟨yj, hyj⟩ : ∃ y, xs.getD j zTerm = y := ⟨_, rfl⟩
    rw [hyi, hyj]
    have HN := Hid.mk hn
    have Hyi := Hid.mk hyi
    have Hyj := Hid.mk hyj
    obtain ⟨o, ta, tb, nn⟩ := x
    simp only at *
    subst h7
    subst hi
    subst hj
    clear hv hn hx hyi hyj hpl hpt ho k1 k2 a1 a2 c1 c2
    by_cases hc : yj.n < yi.n
    · rw [if_pos hc]
      go_enter Tryd.func57, Tryd.ntmps57
      have B := Below.refl w.heap.size w
      have Bo := B
      replace ha := ha.kept (belowA w (.cells #[.int .i64 7, .int .i64 (i : Int), .int .i64 (j : Int), .int .i64 nn] 70))
      replace B := thenB B (belowA w (.cells #[.int .i64 7, .int .i64 (i : Int), .int .i64 (j : Int), .int .i64 nn] 70))
      have VT := V.new w [.int .i64 7, .int .i64 (i : Int), .int .i64 (j : Int), .int .i64 nn] 70
      obtain ⟨s_VT, f_VT, z_VT⟩ := VT.open
      have Bo := B
      go_wp2_with fail
      refine (CP.out _).mono ?_
      rintro e w11 ⟨c, d, rfl, O, b11⟩
      clear s_VT f_VT z_VT
      have S11 := b11.size
      simp only [World.size_alloc] at S11
      replace VT := VT.kept b11
      replace ha := ha.kept b11
      replace B := thenB B b11
      clear b11
      obtain ⟨s_VT, f_VT, z_VT⟩ := VT.open
      have Bo := B
      obtain ⟨r0, r1, r2, r3⟩ := RdTerm.at ha i (by have := HN.out; omega) yi Hyi.out
      obtain ⟨t0, t1, t2, t3⟩ := RdTerm.at ha j (by have := HN.out; omega) yj Hyj.out
      clear r0 r1 r2 t0 t1 t2
      go_wp2_with fail
      go_quiet (fail)
      clear s_VT f_VT z_VT
      have bq := belowN (Below.refl (w11).heap.size (w11)) nq
      replace VT := VT.kept bq
      replace ha := ha.kept bq
      replace O := O.kept bq
      replace B := thenB B bq
      clear bq
      generalize World.drewN w11 nq = wn12 at *
      obtain ⟨s_VT, f_VT, z_VT⟩ := VT.open
      have Bo := B
      clear r3 t3
      have hc0 : ∃ g, c = some ⟨g, 0, none⟩ := by
        rcases O.2 with ⟨_, h0⟩ | ⟨g, cap', cur, hv, _⟩
        · simp at h0
        · simp only [Value.slice.injEq] at hv; exact ⟨g, hv.1⟩
      obtain ⟨gg, rfl⟩ := hc0
      have hOl := O.lt _ rfl
      simp only [World.size_alloc] at hOl
      go_wp2_with fail
      refine (reverse2_ok _ gg d (i : Int) (j : Int) _ O).mono ?_
      rintro e w9 ⟨rfl, O9, g9⟩
      clear s_VT f_VT z_VT
      have O9' := Hid.mk (O9.mono (base' := w.heap.size) (by simp only [World.size_alloc]; omega))
      have B9 := Hid.mk (belowG (c := some ⟨gg, 0, none⟩) B g9 B.size (fun b hb => by simp only [Option.some.injEq] at hb; subst hb; simp only; omega))
      clear O9 g9 B Bo VT
      go_wp2
      go_ret
      exact ⟨some ⟨gg, 0, none⟩, d, rfl, O9'.out, B9.out⟩
    · rw [if_neg hc]
      go_enter Tryd.func57, Tryd.ntmps57
      have B := Below.refl w.heap.size w
      have Bo := B
      replace ha := ha.kept (belowA w (.cells #[.int .i64 7, .int .i64 (i : Int), .int .i64 (j : Int), .int .i64 nn] 70))
      replace B := thenB B (belowA w (.cells #[.int .i64 7, .int .i64 (i : Int), .int .i64 (j : Int), .int .i64 nn] 70))
      have VT := V.new w [.int .i64 7, .int .i64 (i : Int), .int .i64 (j : Int), .int .i64 nn] 70
      obtain ⟨s_VT, f_VT, z_VT⟩ := VT.open
      have Bo := B
      go_wp2_with fail
      refine (CP.out _).mono ?_
      rintro e w31 ⟨c, d, rfl, O, b31⟩
      clear s_VT f_VT z_VT
      have S31 := b31.size
      simp only [World.size_alloc] at S31
      replace VT := VT.kept b31
      replace ha := ha.kept b31
      replace B := thenB B b31
      clear b31
      obtain ⟨s_VT, f_VT, z_VT⟩ := VT.open
      have Bo := B
      obtain ⟨r0, r1, r2, r3⟩ := RdTerm.at ha i (by have := HN.out; omega) yi Hyi.out
      obtain ⟨t0, t1, t2, t3⟩ := RdTerm.at ha j (by have := HN.out; omega) yj Hyj.out
      clear r0 r1 r2 t0 t1 t2
      go_wp2_with fail
      go_quiet (fail)
      clear s_VT f_VT z_VT
      have bq := belowN (Below.refl (w31).heap.size (w31)) nq
      replace VT := VT.kept bq
      replace ha := ha.kept bq
      replace O := O.kept bq
      replace B := thenB B bq
      clear bq
      generalize World.drewN w31 nq = wn32 at *
      obtain ⟨s_VT, f_VT, z_VT⟩ := VT.open
      have Bo := B
      clear r3 t3
      have O9' := Hid.mk (O.mono (base' := w.heap.size) (by simp only [World.size_alloc]; omega))
      go_wp2
      go_ret
      exact ⟨c, d, rfl, O9'.out, Bo⟩
  · have h8 : (x.o == 7) = false := by simp [h7]
    have hpt : plD xs x = plc x := by unfold plD; rw [if_neg (fun h => h7 h.1)]
    rw [hpt]
    clear hv hx hpt ho h7 hn hk
    go_enter Tryd.func57, Tryd.ntmps57
    have B := Below.refl w.heap.size w
    have Bo := B
    replace B := thenB B (belowA w (.cells #[.int .i64 x.o, .int .i64 x.a, .int .i64 x.b, .int .i64 x.n] 70))
    have VT := V.new w [.int .i64 x.o, .int .i64 x.a, .int .i64 x.b, .int .i64 x.n] 70
    obtain ⟨s_VT, f_VT, z_VT⟩ := VT.open
    have Bo := B
    go_wp2_with fail
    refine (CP.out _).mono ?_
    rintro e w51 ⟨c, d, rfl, O, b51⟩
    clear s_VT f_VT z_VT
    have S51 := b51.size
    simp only [World.size_alloc] at S51
    replace VT := VT.kept b51
    replace B := thenB B b51
    clear b51
    obtain ⟨s_VT, f_VT, z_VT⟩ := VT.open
    have Bo := B
    go_wp2_with fail
    go_quiet (fail)
    clear s_VT f_VT z_VT
    have bq := belowN (Below.refl (w51).heap.size (w51)) nq
    replace VT := VT.kept bq
    replace O := O.kept bq
    replace B := thenB B bq
    clear bq
    generalize World.drewN w51 nq = wn52 at *
    obtain ⟨s_VT, f_VT, z_VT⟩ := VT.open
    have Bo := B
    have O9' := Hid.mk (O.mono (base' := w.heap.size) (by simp only [World.size_alloc]; omega))
    go_wp2
    go_ret
    exact ⟨c, d, rfl, O9'.out, Bo⟩

end Go.Proofs.YthjaehcfakjemaaDoor
