/- Put together: TmZ, PlT, PwA, PwB. -/
import Derived.Test.YtfldgeokigcokaaGreatFWo
import Derived.Test.YtfldgeokigcokaaGreatSortI
import Derived.Test.YtfldgeokigcokaaGreatTmK
import Derived.Test.YtfldgeokigcokaaGreatFWv
import Derived.Test.YtfldgeokigcokaaGreatVar
import Derived.Test.YtfldgeokigcokaaGreatDrawP
import Derived.Deep.DeepCutAuto
import Derived.Test.YtfldgeokigcokaaGreatFWl
import Derived.Test.YtfldgeokigcokaaGreatNewC
import Derived.Test.YtfldgeokigcokaaGreatFill
import Derived.Maps.AppendAt
import Derived.Deep.AppendLies

/- What a term is made of: its parts. -/
namespace Go.Proofs.YtfldgeokigcokaaGreat
open Go.RowKit

/-- A place that a term is made of. -/
inductive Rch (xs : List T4) (r : Nat) : Nat → Prop where
  | top : Rch xs r r
  | step {i j : Nat} : Rch xs r i → (j : Int) ∈ plc (xs.getD i zTerm) → Rch xs r j

/-- Each term's places are ahead of it. -/
def Names (xs : List T4) : Prop := ∀ k, k < xs.length → ∀ z ∈ plc (xs.getD k zTerm), 0 ≤ z ∧ z < k

theorem Rch.lt {xs : List T4} (N : Names xs) {r i : Nat} (hr : r < xs.length) (h : Rch xs r i) : i ≤ r := by
  induction h with
  | top => exact Nat.le_refl _
  | step h1 h2 ih => have := N _ (by omega) _ h2; omega

theorem Rch.trans {xs : List T4} {r i j : Nat} (h : Rch xs r i) (k : Rch xs i j) : Rch xs r j := by
  induction k with
  | top => exact h
  | step _ h2 ih => exact .step ih h2

/-- The marks behind k rounds from the top down. -/
def mks (xs : List T4) (r : Nat) : Nat → Nat → Bool
  | 0 => fun i => i == r
  | k + 1 => fun j => mks xs r k j || (mks xs r k (r - k) && (plc (xs.getD (r - k) zTerm)).any fun z => z == (j : Int))

theorem mks_mono {xs : List T4} {r k j : Nat} (h : mks xs r k j = true) : mks xs r (k + 1) j = true := by simp [mks, h]

theorem mks_le {xs : List T4} {r j k m : Nat} (h : k ≤ m) (h1 : mks xs r k j = true) : mks xs r m j = true := by
  induction m with
  | zero =>
    have e : k = 0 := by omega
    rw [e] at h1; exact h1
  | succ m ih =>
    rcases Nat.lt_or_ge m k with h2 | h2
    · have e : k = m + 1 := by omega
      rw [e] at h1; exact h1
    · exact mks_mono (ih h2)

theorem mks_rch {xs : List T4} {r : Nat} : ∀ k j, mks xs r k j = true → Rch xs r j
  | 0, j, h => by simp [mks] at h; subst h; exact .top
  | k + 1, j, h => by
    simp only [mks, Bool.or_eq_true, Bool.and_eq_true, List.any_eq_true] at h
    rcases h with h | ⟨h, z, hz, he⟩
    · exact mks_rch k j h
    · refine .step (mks_rch k _ h) ?_
      have : z = (j : Int) := by simpa using he
      rw [← this]; exact hz

/-- A mark at a place that has been gone by stays as it is. -/
theorem mks_old {xs : List T4} (N : Names xs) {r : Nat} (hr : r < xs.length) {k m j : Nat} (hk : r ≤ k + j) (hkm : k ≤ m) (h : mks xs r m j = true) : mks xs r k j = true := by
  induction m with
  | zero =>
    have e : k = 0 := by omega
    rw [e]; exact h
  | succ m ih =>
    rcases Nat.lt_or_ge m k with h2 | h2
    · have e : k = m + 1 := by omega
      rw [e]; exact h
    · refine ih h2 ?_
      simp only [mks, Bool.or_eq_true, Bool.and_eq_true, List.any_eq_true] at h
      rcases h with h | ⟨_, z, hz, he⟩
      · exact h
      · have h3 := N (r - m) (by omega) z hz
        have h4 : z = (j : Int) := by simpa using he
        omega

theorem rch_mks {xs : List T4} (N : Names xs) {r : Nat} (hr : r < xs.length) {j : Nat} (h : Rch xs r j) : mks xs r (r + 1) j = true := by
  induction h with
  | top => exact mks_le (Nat.zero_le _) (by simp [mks])
  | @step i j h1 h2 ih =>
    have hi := h1.lt N hr
    have hm : mks xs r (r - i) i = true := mks_old N hr (k := r - i) (m := r + 1) (j := i) (by omega) (by omega) ih
    refine mks_le (k := r - i + 1) (by omega) ?_
    simp only [mks, Bool.or_eq_true, Bool.and_eq_true, List.any_eq_true]
    right
    rw [show r - (r - i) = i by omega]
    exact ⟨hm, (j : Int), h2, by simp⟩

theorem mks_iff {xs : List T4} (N : Names xs) {r : Nat} (hr : r < xs.length) {j : Nat} : mks xs r (r + 1) j = true ↔ Rch xs r j := ⟨mks_rch _ _, rch_mks N hr⟩

/-- The places that a term is made of, rising. -/
@[irreducible] def prL (xs : List T4) (r : Nat) : List Int := ((List.range (r + 1)).filter fun i => mks xs r (r + 1) i).map fun i : Nat => (i : Int)

theorem prL_mem {xs : List T4} (N : Names xs) {r : Nat} (hr : r < xs.length) {z : Int} : z ∈ prL xs r ↔ ∃ i : Nat, z = (i : Int) ∧ Rch xs r i := by
  unfold prL
  rw [List.mem_map]
  constructor
  · rintro ⟨i, hi, rfl⟩
    rw [List.mem_filter] at hi
    exact ⟨i, rfl, (mks_iff N hr).1 hi.2⟩
  · rintro ⟨i, rfl, hi⟩
    refine ⟨i, ?_, rfl⟩
    rw [List.mem_filter]
    have := hi.lt N hr
    exact ⟨List.mem_range.2 (by omega), (mks_iff N hr).2 hi⟩

theorem prL_rising (xs : List T4) (r : Nat) : (prL xs r).Pairwise (fun x y => x < y) := by
  unfold prL
  rw [List.pairwise_map]
  exact (List.pairwise_lt_range.filter _).imp (fun h => by omega)

theorem prL_len (xs : List T4) (r : Nat) : (prL xs r).length ≤ r + 1 := by
  unfold prL
  rw [List.length_map]
  have := List.length_filter_le (fun i => mks xs r (r + 1) i) (List.range (r + 1))
  simpa using this

/-- Two rising lists of the same numbers are one. -/
theorem rising_eq : ∀ (xs ys : List Int), xs.Pairwise (fun x y => x < y) → ys.Pairwise (fun x y => x < y) → (∀ z, z ∈ xs ↔ z ∈ ys) → xs = ys
  | [], [], _, _, _ => rfl
  | [], y :: ys, _, _, h => by have := (h y).2 (by simp); cases this
  | x :: xs, [], _, _, h => by have := (h x).1 (by simp); cases this
  | x :: xs, y :: ys, hx, hy, h => by
    obtain ⟨hx1, hx2⟩ := List.pairwise_cons.1 hx
    obtain ⟨hy1, hy2⟩ := List.pairwise_cons.1 hy
    have e : x = y := by
      have h1 := (h x).1 (by simp)
      have h2 := (h y).2 (by simp)
      rcases List.mem_cons.1 h1 with e | h1
      · exact e
      · rcases List.mem_cons.1 h2 with e | h2
        · exact e.symm
        · have := hy1 x h1; have := hx1 y h2; omega
    subst e
    rw [rising_eq xs ys hx2 hy2 (fun z => ?_)]
    constructor
    · intro hz
      rcases List.mem_cons.1 ((h z).1 (List.mem_cons_of_mem _ hz)) with e | h1
      · subst e; have := hx1 z hz; omega
      · exact h1
    · intro hz
      rcases List.mem_cons.1 ((h z).2 (List.mem_cons_of_mem _ hz)) with e | h1
      · subst e; have := hy1 z hz; omega
      · exact h1

theorem igetD_mem {l : List Int} {k : Nat} (h : k < l.length) : l.getD k 0 ∈ l := by simp [List.getD, h]

theorem igetD_some {l : List Int} {k : Nat} (h : k < l.length) : l[k]? = some (l.getD k 0) := by simp [List.getD, h]

/-- What a walk downwards takes: each place once, all of them parts, the top among them, and with each what it names. -/
structure Took (xs : List T4) (r : Nat) (T ps : List Int) : Prop where
  once : ps.Nodup
  new : ∀ p ∈ ps, p ∉ T
  part : ∀ p ∈ ps, ∃ i : Nat, p = (i : Int) ∧ Rch xs r i
  top : (r : Int) ∈ ps ++ T
  shut : ∀ p ∈ ps, ∀ z ∈ plc (xs.getD p.toNat zTerm), z ∈ ps ++ T

/-- .. in the midst of it: the first k of what the top names are done. -/
structure Taking (xs : List T4) (r : Nat) (T ps : List Int) (k : Nat) : Prop where
  once : ps.Nodup
  new : ∀ p ∈ ps, p ∉ T
  part : ∀ p ∈ ps, ∃ i : Nat, p = (i : Int) ∧ Rch xs r i
  top : (r : Int) ∈ ps
  shut : ∀ p ∈ ps, p ≠ (r : Int) → ∀ z ∈ plc (xs.getD p.toNat zTerm), z ∈ ps ++ T
  own : ∀ z ∈ (plc (xs.getD r zTerm)).take k, z ∈ ps ++ T

theorem Taking.start {xs : List T4} {r : Nat} {T : List Int} (h : (r : Int) ∉ T) : Taking xs r T [(r : Int)] 0 :=
  ⟨by simp, by simpa using h, fun p hp => ⟨r, by simpa using hp, .top⟩, by simp, fun p hp hne => absurd (by simpa using hp) hne, by simp⟩

theorem Taking.next {xs : List T4} {r : Nat} {T ps qs : List Int} {k : Nat} {j : Nat} (h : Taking xs r T ps k) (hk : k < (plc (xs.getD r zTerm)).length) (hj : (plc (xs.getD r zTerm)).getD k 0 = (j : Int)) (q : Took xs j (ps ++ T) qs) : Taking xs r T (ps ++ qs) (k + 1) := by
  have hm : (j : Int) ∈ plc (xs.getD r zTerm) := by rw [← hj]; exact igetD_mem hk
  refine ⟨?_, ?_, ?_, by simp [h.top], ?_, ?_⟩
  · rw [List.nodup_append]
    exact ⟨h.once, q.once, fun a ha b hb e => by subst e; exact q.new a hb (by simp [ha])⟩
  · intro p hp
    rcases List.mem_append.1 hp with hp | hp
    · exact h.new p hp
    · exact fun e => q.new p hp (by simp [e])
  · intro p hp
    rcases List.mem_append.1 hp with hp | hp
    · exact h.part p hp
    · obtain ⟨i, e, hi⟩ := q.part p hp
      exact ⟨i, e, (Rch.step .top hm).trans hi⟩
  · intro p hp hne z hz
    rcases List.mem_append.1 hp with hp | hp
    · have := h.shut p hp hne z hz; simp at this ⊢; rcases this with h1 | h1 <;> simp [h1]
    · have := q.shut p hp z hz; simp at this ⊢; rcases this with h1 | h1 | h1 <;> simp [h1]
  · intro z hz
    rw [List.take_add_one] at hz
    rcases List.mem_append.1 hz with hz | hz
    · have := h.own z hz; simp at this ⊢; rcases this with h1 | h1 <;> simp [h1]
    · have e : (plc (xs.getD r zTerm))[k]? = some (j : Int) := by rw [← hj]; exact igetD_some hk
      rw [e] at hz
      have : z = (j : Int) := by simpa using hz
      subst this
      have := q.top; simp at this ⊢; rcases this with h1 | h1 | h1 <;> simp [h1]

theorem Taking.done {xs : List T4} {r : Nat} {T ps : List Int} {k : Nat} (h : Taking xs r T ps k) (hk : (plc (xs.getD r zTerm)).length ≤ k) : Took xs r T ps := by
  refine ⟨h.once, h.new, h.part, by simp [h.top], fun p hp z hz => ?_⟩
  by_cases e : p = (r : Int)
  · subst e
    rw [Int.toNat_natCast] at hz
    exact h.own z (by rw [List.take_of_length_le hk]; exact hz)
  · exact h.shut p hp e z hz

theorem Took.none {xs : List T4} {r : Nat} {T : List Int} (h : (r : Int) ∈ T) : Took xs r T [] := ⟨by simp, by simp, by simp, by simpa using h, by simp⟩

/-- All that a term is made of has been taken, and nothing else. -/
theorem Took.all {xs : List T4} (N : Names xs) {r : Nat} (hr : r < xs.length) {ps : List Int} (h : Took xs r [] ps) : srt ps = prL xs r := by
  have hmem : ∀ z, z ∈ ps ↔ z ∈ prL xs r := by
    intro z
    rw [prL_mem N hr]
    constructor
    · exact h.part z
    · rintro ⟨i, rfl, hi⟩
      induction hi with
      | top => simpa using h.top
      | @step a b h1 h2 ih =>
        have := h.shut _ ih (b : Int) (by rw [Int.toNat_natCast]; exact h2)
        simpa using this
  refine rising_eq _ _ ?_ (prL_rising xs r) (fun z => by rw [srt_mem]; exact hmem z)
  have h1 := srt_rising ps
  have h2 : (srt ps).Nodup := (srt_perm ps).nodup_iff.2 h.once
  have h3 := h1.and h2
  exact h3.imp (fun h => by omega)

/-- What is left of a table's places. -/
def lftM (xs : List T4) (T : List Int) : T4 → Option Int := fun t => if t ∈ xs ∧ ((tmIdx xs t : Nat) : Int) ∉ T then some (tmIdx xs t : Nat) else none

theorem lftM_same {xs : List T4} {T T' : List Int} (h : ∀ z, z ∈ T ↔ z ∈ T') : lftM xs T = lftM xs T' := by
  funext t; unfold lftM; simp only [h]

theorem idx_once {xs : List T4} (h : ∀ k, k < xs.length → xs.getD k zTerm ∉ xs.take k) {k : Nat} (hk : k < xs.length) : tmIdx xs (xs.getD k zTerm) = k := by
  have hm : xs.getD k zTerm ∈ xs := by
    have : xs.getD k zTerm = xs[k] := by simp [List.getD, hk]
    rw [this]; exact List.getElem_mem hk
  have hno := h k hk
  obtain ⟨t, ht⟩ : ∃ t, xs.getD k zTerm = t := ⟨_, rfl⟩
  rw [ht] at hm hno ⊢
  have h1 := tmIdx_lt hm
  have h2 := tmIdx_at hm
  rcases Nat.lt_trichotomy (tmIdx xs t) k with h3 | h3 | h3
  · refine absurd ?_ hno
    rw [List.mem_take_iff_getElem]
    refine ⟨tmIdx xs t, by omega, ?_⟩
    have e : xs.getD (tmIdx xs t) zTerm = xs[tmIdx xs t] := by simp [List.getD, h1]
    rw [← e]; exact h2
  · exact h3
  · exact absurd ht (tmIdx_not h3 hk)

theorem lftM_in {xs : List T4} (h : ∀ k, k < xs.length → xs.getD k zTerm ∉ xs.take k) {k : Nat} (hk : k < xs.length) (T : List Int) : lftM xs T (xs.getD k zTerm) = if (k : Int) ∈ T then none else some (k : Int) := by
  have hi := idx_once h hk
  have hm : xs.getD k zTerm ∈ xs := by
    have : xs.getD k zTerm = xs[k] := by simp [List.getD, hk]
    rw [this]; exact List.getElem_mem hk
  unfold lftM
  rw [hi]
  by_cases e : (k : Int) ∈ T
  · rw [if_pos e, if_neg (fun h => h.2 e)]
  · rw [if_neg e, if_pos ⟨hm, e⟩]

theorem lftM_nil (xs : List T4) : lftM xs [] = fun t => if t ∈ xs then some ((tmIdx xs t : Nat) : Int) else none := by
  funext t; unfold lftM; simp

theorem lftM_cons {xs : List T4} (h : ∀ k, k < xs.length → xs.getD k zTerm ∉ xs.take k) {k : Nat} (hk : k < xs.length) (T : List Int) : (fun s => if s = xs.getD k zTerm then none else lftM xs T s) = lftM xs ((k : Int) :: T) := by
  funext s
  have hi := idx_once h hk
  unfold lftM
  by_cases e : s = xs.getD k zTerm
  · rw [if_pos e, e, hi, if_neg (fun h => h.2 (by simp))]
  · rw [if_neg e]
    by_cases hs : s ∈ xs
    · have h2 := tmIdx_at hs
      have hne : ((tmIdx xs s : Nat) : Int) ≠ (k : Int) := fun e2 => e (by rw [← h2, show tmIdx xs s = k by omega])
      by_cases hT : ((tmIdx xs s : Nat) : Int) ∈ T
      · rw [if_neg (fun h => h.2 hT), if_neg (fun h => h.2 (by simp [hT]))]
      · rw [if_pos ⟨hs, hT⟩, if_pos ⟨hs, by simp [hne, hT]⟩]
    · rw [if_neg (fun h => hs h.1), if_neg (fun h => hs h.1)]

theorem nodup_len : ∀ (n : Nat) (ps : List Int), ps.Nodup → (∀ p ∈ ps, 0 ≤ p ∧ p < n) → ps.length ≤ n
  | 0, [], _, _ => Nat.le_refl _
  | 0, p :: ps, _, h => by have := h p (by simp); omega
  | n + 1, ps, hd, h => by
    by_cases hm : (n : Int) ∈ ps
    · have h1 := List.length_erase_of_mem hm
      have h2 : (ps.erase (n : Int)).Nodup := hd.erase _
      have h3 := nodup_len n (ps.erase (n : Int)) h2 (fun p hp => by
        have hp2 := (hd.mem_erase_iff).1 hp
        have := h p hp2.2
        have := hp2.1
        omega)
      have : 0 < ps.length := List.length_pos_of_mem hm
      omega
    · have := nodup_len n ps hd (fun p hp => by
        have h1 := h p hp
        have : p ≠ (n : Int) := fun e => hm (e ▸ hp)
        omega)
      omega

theorem Took.len {xs : List T4} (N : Names xs) {r : Nat} (hr : r < xs.length) {T ps : List Int} (h : Took xs r T ps) : ps.length ≤ r + 1 :=
  nodup_len (r + 1) ps h.once fun p hp => by
    obtain ⟨i, rfl, hi⟩ := h.part p hp
    have := hi.lt N hr
    omega

theorem Taking.len {xs : List T4} (N : Names xs) {r : Nat} (hr : r < xs.length) {T ps : List Int} {k : Nat} (h : Taking xs r T ps k) : ps.length ≤ r + 1 :=
  nodup_len (r + 1) ps h.once fun p hp => by
    obtain ⟨i, rfl, hi⟩ := h.part p hp
    have := hi.lt N hr
    omega

theorem names_of {xs : List T4} (h : Ahead xs) : Names xs := by
  intro k hk z hz
  obtain ⟨h1, h2⟩ := h k hk
  unfold plc at hz
  rcases kids_cases (xs.getD k zTerm).o with h3 | h3 | h3 <;> rw [h3] at hz h1 h2 <;> simp at hz h1 h2
  · subst hz; exact h1
  · rcases hz with rfl | rfl
    · exact h1
    · exact h2

end Go.Proofs.YtfldgeokigcokaaGreat

/- The places that a term names, as they are told: the secrets of a both by their numbers. -/
namespace Go.Proofs.YtfldgeokigcokaaGreat
open Go.RowKit

theorem grownSetI (w : World) (p : Addr) (v : Value) : w.grownBy (w.setCell p v) (some p.block) :=
  ⟨rfl, rfl, rfl, by simp [World.setCell], fun k _ hk => Below.heap_setCell _ _ _ _ (fun e => hk (by rw [e]))⟩

theorem OwnI.store {w : World} {base g cap : Nat} {zs : List Int} (h : Own .i64 2 w base (some ⟨g, 0, Option.none⟩) cap zs) (j : Nat) (u : Int) : Own .i64 2 (w.setCell ⟨g, j, Option.none⟩ (.int .i64 u)) base (some ⟨g, 0, Option.none⟩) cap (zs.set j u) := by
  have h2 := (h.stored j (.int .i64 u)).1
  rw [set_map] at h2
  exact Own.mk h2 (by simp)

theorem OwnI.cellAt {w : World} {base g cap : Nat} {zs : List Int} (h : Own .i64 2 w base (some ⟨g, 0, Option.none⟩) cap zs) (j : Nat) (hj : j < zs.length) : w.cell? ⟨g, j, Option.none⟩ = some (.int .i64 (zs.getD j 0)) := by
  rw [World.ownsRow.cellAt h j (by simpa using hj)]
  simp [List.getD, hj]

set_option maxRecDepth 20000 in
set_option maxHeartbeats 4000000 in
theorem reverse2_ok (base g cap : Nat) (u v : Int) (w : World) (O : Own .i64 2 w base (some ⟨g, 0, none⟩) cap [u, v]) :
    Calls Tryz.prog 73 #[.slice (some ⟨g, 0, none⟩) 2 cap] w fun e w' => e = .returned (.tuple #[]) ∧ Own .i64 2 w' base (some ⟨g, 0, none⟩) cap [v, u] ∧ w.grownBy w' (some g) := by
  have O0 := Hid.mk O
  clear O
  go_enter Tryz.func73, Tryz.ntmps73
  go_wp2
  go_loopw [2, 3] (fun i j wr => (i = .int .i64 0 ∧ j = .int .i64 1 ∧ wr = w) ∨ (i = .int .i64 1 ∧ j = .int .i64 0 ∧ Own .i64 2 wr base (some ⟨g, 0, none⟩) cap [v, u] ∧ w.grownBy wr (some g))) (fun i _ _ => 2 - (intOf i).toNat)
  case atStart => exact .inl ⟨rfl, rfl, rfl⟩
  case round =>
    rcases hrel with ⟨rfl, rfl, hww⟩ | ⟨rfl, rfl, O, G⟩
    · subst hww
      have O := O0.out
      have G := World.grownBy.refl wr (some g)
      go_upto_region 3 with fail
      refine wp_region_any (by kernel_rfl) ?_
      change wpAny _ _ _ _ _ _ _ wr.drew
      have bd : Below wr.heap.size wr wr.drew := (Below.refl _ _).drew
      replace O := O.kept bd
      replace G := grownBy_trans G (Below.grownBy bd _)
      clear bd
      generalize wr.drew = wd at *
      refine wpAny_take (i := 0) (oi := _) (v := ?vtt1) rfl (by kernel_rfl) (by kernel_rfl) (by kernel_rfl) (fun _ _ _ h => h) (Or.inl ⟨by rfl, ?hytt1⟩) ?resttt1
      case hytt1 => (intro w; go_simp; first | done | with_reducible rfl)
      try simp only [Act.put, List.getElem_toArray, List.getElem_cons_zero, List.setIfInBounds_toArray, List.set_cons_zero, List.set_cons_succ]
      refine wpAny_take (i := 1) (oi := _) (v := ?vtt2) rfl (by kernel_rfl) (by kernel_rfl) (by kernel_rfl) (fun _ _ _ h => h) (Or.inl ⟨by rfl, ?hytt2⟩) ?resttt2
      case hytt2 => (intro w; go_simp; first | done | with_reducible rfl)
      try simp only [Act.put, List.getElem_toArray, List.getElem_cons_zero, List.getElem_cons_succ, List.setIfInBounds_toArray, List.set_cons_zero, List.set_cons_succ]
      refine wpAny_take (i := 4) (oi := _) (v := ?vtt3) rfl (by kernel_rfl) (by kernel_rfl) (by kernel_rfl) (fun _ _ _ h => h) (Or.inl ⟨by rfl, ?hytt3⟩) ?resttt3
      case hytt3 => (intro w; go_simp; first | done | with_reducible rfl)
      try simp only [Act.put, List.getElem_toArray, List.getElem_cons_zero, List.getElem_cons_succ, List.setIfInBounds_toArray, List.set_cons_zero, List.set_cons_succ]
      refine wpAny_take (i := 5) (oi := _) (v := ?vtt4) rfl (by kernel_rfl) (by kernel_rfl) (by kernel_rfl) (fun _ _ _ h => h) (Or.inl ⟨by rfl, ?hytt4⟩) ?resttt4
      case hytt4 => (intro w; go_simp; first | done | with_reducible rfl)
      try simp only [Act.put, List.getElem_toArray, List.getElem_cons_zero, List.getElem_cons_succ, List.setIfInBounds_toArray, List.set_cons_zero, List.set_cons_succ]
      refine wpAny_take (i := 6) (oi := _) (v := ?vtt5) rfl (by kernel_rfl) (by kernel_rfl) (by kernel_rfl) (fun _ _ _ h => h) (Or.inl ⟨by rfl, ?hytt5⟩) ?resttt5
      case hytt5 => (intro w; go_simp; first | done | with_reducible rfl)
      try simp only [Act.put, List.getElem_toArray, List.getElem_cons_zero, List.getElem_cons_succ, List.setIfInBounds_toArray, List.set_cons_zero, List.set_cons_succ]
      refine wpAny_take (i := 2) (oi := _) (v := ?vtt6) rfl (by kernel_rfl) (by kernel_rfl) (by kernel_rfl) (fun _ _ _ h => h) (Or.inl ⟨by rfl, ?hytt6⟩) ?resttt6
      case hytt6 => (intro w; go_simp; first | done | with_reducible rfl)
      try simp only [Act.put, List.getElem_toArray, List.getElem_cons_zero, List.getElem_cons_succ, List.setIfInBounds_toArray, List.set_cons_zero, List.set_cons_succ]
      refine wpAny_take (i := 3) (oi := _) (v := ?vtt7) rfl (by kernel_rfl) (by kernel_rfl) (by kernel_rfl) (fun _ _ _ h => h) (Or.inl ⟨by rfl, ?hytt7⟩) ?resttt7
      case hytt7 => (intro w; go_simp; first | done | with_reducible rfl)
      try simp only [Act.put, List.getElem_toArray, List.getElem_cons_zero, List.getElem_cons_succ, List.setIfInBounds_toArray, List.set_cons_zero, List.set_cons_succ]
      refine wpAny_take (i := 8) (oi := _) (v := ?vtt8) rfl (by kernel_rfl) (by kernel_rfl) (by kernel_rfl) (fun _ _ _ h => h) (Or.inl ⟨by rfl, ?hytt8⟩) ?resttt8
      case hytt8 => (intro w; go_simp; first | done | with_reducible rfl)
      try simp only [Act.put, List.getElem_toArray, List.getElem_cons_zero, List.getElem_cons_succ, List.setIfInBounds_toArray, List.set_cons_zero, List.set_cons_succ]
      refine wpAny_take (i := 9) (oi := _) (v := ?vtt9) rfl (by kernel_rfl) (by kernel_rfl) (by kernel_rfl) (fun _ _ _ h => h) (Or.inl ⟨by rfl, ?hytt9⟩) ?resttt9
      case hytt9 => (intro w; go_simp; first | done | with_reducible rfl)
      try simp only [Act.put, List.getElem_toArray, List.getElem_cons_zero, List.getElem_cons_succ, List.setIfInBounds_toArray, List.set_cons_zero, List.set_cons_succ]
      refine wpAny_take (i := 10) (oi := _) (v := ?vtt10) rfl (by kernel_rfl) (by kernel_rfl) (by kernel_rfl) (fun _ _ _ h => h) (Or.inl ⟨by rfl, ?hytt10⟩) ?resttt10
      case hytt10 => (intro w; go_simp; first | done | with_reducible rfl)
      try simp only [Act.put, List.getElem_toArray, List.getElem_cons_zero, List.getElem_cons_succ, List.setIfInBounds_toArray, List.set_cons_zero, List.set_cons_succ]
      refine wpAny_ready (rs := [7, 11]) (by kernel_rfl) (by simp) ?_
      refine AllReady.cons (o := _) rfl (fun K0 hK0 => ?_) (AllReady.cons (o := _) rfl (fun K0 hK0 => ?_) AllReady.nil)
      · skip
        have c1 := OwnI.cellAt O 1 (by simp)
        simp only [List.getD_cons_zero, List.getD_cons_succ] at c1
        go_simp
        refine hK0 _ _ ?_
        clear hK0 K0 c1
        try simp only [Act.put, List.getElem_toArray, List.getElem_cons_zero, List.getElem_cons_succ, List.setIfInBounds_toArray, List.set_cons_zero, List.set_cons_succ]
        refine wpAny_ready (rs := [11]) (by kernel_rfl) (by simp) ?_
        refine AllReady.cons (o := _) rfl (fun K0 hK0 => ?_) AllReady.nil
        have c1 := OwnI.cellAt O 0 (by simp)
        simp only [List.getD_cons_zero] at c1
        go_simp
        refine hK0 _ _ ?_
        clear hK0 K0 c1
        try simp only [Act.put, List.getElem_toArray, List.getElem_cons_zero, List.getElem_cons_succ, List.setIfInBounds_toArray, List.set_cons_zero, List.set_cons_succ]
        refine wpAny_take (i := 12) (oi := _) (v := ?vtt11) rfl (by kernel_rfl) (by kernel_rfl) (by kernel_rfl) (fun _ _ _ h => h) (Or.inl ⟨by rfl, ?hytt11⟩) ?resttt11
        case hytt11 => (intro w; go_simp; first | done | with_reducible rfl)
        try simp only [Act.put, List.getElem_toArray, List.getElem_cons_zero, List.getElem_cons_succ, List.setIfInBounds_toArray, List.set_cons_zero, List.set_cons_succ]
        refine wpAny_ready (rs := [13]) (by kernel_rfl) (by simp) ?_
        refine AllReady.cons (o := _) rfl (fun K0 hK0 => ?_) AllReady.nil
        have c1 := OwnI.cellAt O 0 (by simp)
        have zF := World.ownsRow.frozenAt O 0
        simp only [List.getD_cons_zero] at c1
        go_simp
        refine hK0 _ _ ?_
        clear hK0 K0 c1 zF
        try simp only [Act.put, List.getElem_toArray, List.getElem_cons_zero, List.getElem_cons_succ, List.setIfInBounds_toArray, List.set_cons_zero, List.set_cons_succ]
        replace O := OwnI.store O 0 v
        simp only [List.set_cons_zero] at O
        replace G := grownBy_trans G (grownSetI wd ⟨g, 0, none⟩ (.int .i64 v))
        generalize wd.setCell ⟨g, 0, none⟩ (.int .i64 v) = ws1 at *
        refine wpAny_take (i := 14) (oi := _) (v := ?vtt12) rfl (by kernel_rfl) (by kernel_rfl) (by kernel_rfl) (fun _ _ _ h => h) (Or.inl ⟨by rfl, ?hytt12⟩) ?resttt12
        case hytt12 => (intro w; go_simp; first | done | with_reducible rfl)
        try simp only [Act.put, List.getElem_toArray, List.getElem_cons_zero, List.getElem_cons_succ, List.setIfInBounds_toArray, List.set_cons_zero, List.set_cons_succ]
        refine wpAny_ready (rs := [15]) (by kernel_rfl) (by simp) ?_
        refine AllReady.cons (o := _) rfl (fun K0 hK0 => ?_) AllReady.nil
        have c1 := OwnI.cellAt O 1 (by simp)
        have zF := World.ownsRow.frozenAt O 1
        simp only [List.getD_cons_zero, List.getD_cons_succ] at c1
        go_simp
        refine hK0 _ _ ?_
        clear hK0 K0 c1 zF
        try simp only [Act.put, List.getElem_toArray, List.getElem_cons_zero, List.getElem_cons_succ, List.setIfInBounds_toArray, List.set_cons_zero, List.set_cons_succ]
        replace O := OwnI.store O 1 u
        simp only [List.set_cons_zero, List.set_cons_succ] at O
        replace G := grownBy_trans G (grownSetI ws1 ⟨g, 1, none⟩ (.int .i64 u))
        generalize ws1.setCell ⟨g, 1, none⟩ (.int .i64 u) = ws2 at *
        refine wpAny_done (by kernel_rfl) ?_ _
        have O9 := Hid.mk O
        have G9 := Hid.mk G
        clear O G
        go_wp2
        go_roundw
        case rel => exact .inr ⟨rfl, rfl, O9.out, G9.out⟩
        case measure => (simp [intOf])
      · skip
        have c1 := OwnI.cellAt O 0 (by simp)
        simp only [List.getD_cons_zero] at c1
        go_simp
        refine hK0 _ _ ?_
        clear hK0 K0 c1
        try simp only [Act.put, List.getElem_toArray, List.getElem_cons_zero, List.getElem_cons_succ, List.setIfInBounds_toArray, List.set_cons_zero, List.set_cons_succ]
        refine wpAny_ready (rs := [7]) (by kernel_rfl) (by simp) ?_
        refine AllReady.cons (o := _) rfl (fun K0 hK0 => ?_) AllReady.nil
        have c1 := OwnI.cellAt O 1 (by simp)
        simp only [List.getD_cons_zero, List.getD_cons_succ] at c1
        go_simp
        refine hK0 _ _ ?_
        clear hK0 K0 c1
        try simp only [Act.put, List.getElem_toArray, List.getElem_cons_zero, List.getElem_cons_succ, List.setIfInBounds_toArray, List.set_cons_zero, List.set_cons_succ]
        refine wpAny_take (i := 12) (oi := _) (v := ?vtt13) rfl (by kernel_rfl) (by kernel_rfl) (by kernel_rfl) (fun _ _ _ h => h) (Or.inl ⟨by rfl, ?hytt13⟩) ?resttt13
        case hytt13 => (intro w; go_simp; first | done | with_reducible rfl)
        try simp only [Act.put, List.getElem_toArray, List.getElem_cons_zero, List.getElem_cons_succ, List.setIfInBounds_toArray, List.set_cons_zero, List.set_cons_succ]
        refine wpAny_ready (rs := [13]) (by kernel_rfl) (by simp) ?_
        refine AllReady.cons (o := _) rfl (fun K0 hK0 => ?_) AllReady.nil
        have c1 := OwnI.cellAt O 0 (by simp)
        have zF := World.ownsRow.frozenAt O 0
        simp only [List.getD_cons_zero] at c1
        go_simp
        refine hK0 _ _ ?_
        clear hK0 K0 c1 zF
        try simp only [Act.put, List.getElem_toArray, List.getElem_cons_zero, List.getElem_cons_succ, List.setIfInBounds_toArray, List.set_cons_zero, List.set_cons_succ]
        replace O := OwnI.store O 0 v
        simp only [List.set_cons_zero] at O
        replace G := grownBy_trans G (grownSetI wd ⟨g, 0, none⟩ (.int .i64 v))
        generalize wd.setCell ⟨g, 0, none⟩ (.int .i64 v) = ws1 at *
        refine wpAny_take (i := 14) (oi := _) (v := ?vtt14) rfl (by kernel_rfl) (by kernel_rfl) (by kernel_rfl) (fun _ _ _ h => h) (Or.inl ⟨by rfl, ?hytt14⟩) ?resttt14
        case hytt14 => (intro w; go_simp; first | done | with_reducible rfl)
        try simp only [Act.put, List.getElem_toArray, List.getElem_cons_zero, List.getElem_cons_succ, List.setIfInBounds_toArray, List.set_cons_zero, List.set_cons_succ]
        refine wpAny_ready (rs := [15]) (by kernel_rfl) (by simp) ?_
        refine AllReady.cons (o := _) rfl (fun K0 hK0 => ?_) AllReady.nil
        have c1 := OwnI.cellAt O 1 (by simp)
        have zF := World.ownsRow.frozenAt O 1
        simp only [List.getD_cons_zero, List.getD_cons_succ] at c1
        go_simp
        refine hK0 _ _ ?_
        clear hK0 K0 c1 zF
        try simp only [Act.put, List.getElem_toArray, List.getElem_cons_zero, List.getElem_cons_succ, List.setIfInBounds_toArray, List.set_cons_zero, List.set_cons_succ]
        replace O := OwnI.store O 1 u
        simp only [List.set_cons_zero, List.set_cons_succ] at O
        replace G := grownBy_trans G (grownSetI ws1 ⟨g, 1, none⟩ (.int .i64 u))
        generalize ws1.setCell ⟨g, 1, none⟩ (.int .i64 u) = ws2 at *
        refine wpAny_done (by kernel_rfl) ?_ _
        have O9 := Hid.mk O
        have G9 := Hid.mk G
        clear O G
        go_wp2
        go_roundw
        case rel => exact .inr ⟨rfl, rfl, O9.out, G9.out⟩
        case measure => (simp [intOf])
    · have O9 := Hid.mk O
      have G9 := Hid.mk G
      clear O G
      go_wp2
      go_end0
      exact ⟨rfl, O9.out, G9.out⟩

/-- A place that a term names is of its size at most. -/
theorem sz_kid {xs : List T4} (hv : tfC xs = 0) {k : Nat} (hk : k < xs.length) {x : T4} (hx : xs.getD k zTerm = x) (hs : (den xs k).sz ≤ 200) : (0 < kids x.o → (den xs x.a.toNat).sz ≤ 200) ∧ (1 < kids x.o → (den xs x.b.toNat).sz ≤ 200) := by
  rw [sz_step k hk (tfC_ahead hv) hx] at hs
  have h1 := (den xs x.a.toNat).sz_in
  have h2 := (den xs x.b.toNat).sz_in
  refine ⟨fun e => ?_, fun e => ?_⟩
  · rw [if_pos e] at hs
    split at hs <;> omega
  · rw [if_pos e, if_pos (by omega)] at hs
    omega

/-- The places that a term names, in the order in which they are told. -/
@[irreducible] def plD (xs : List T4) (x : T4) : List Int := if x.o = 7 ∧ (xs.getD x.b.toNat zTerm).n < (xs.getD x.a.toNat zTerm).n then [x.b, x.a] else plc x

theorem plD_len (xs : List T4) (x : T4) : (plD xs x).length = (plc x).length := by
  unfold plD
  split
  · rename_i h
    unfold plc
    rw [h.1, kids7]; rfl
  · rfl

theorem plD_small (xs : List T4) (x : T4) : (plD xs x).length ≤ 2 := by
  rw [plD_len]; unfold plc
  split
  · simp
  · split <;> simp

theorem plD_in {xs : List T4} (hv : tfC xs = 0) {k : Nat} (hk : k < xs.length) {x : T4} (hx : xs.getD k zTerm = x) (hs : (den xs k).sz ≤ 200) : ∀ p ∈ plD xs x, ∃ i : Nat, p = i ∧ i < k ∧ (den xs i).sz ≤ 200 := by
  have h1 := plc_ahead k hk (tfC_ahead hv) hx
  obtain ⟨s1, s2⟩ := sz_kid hv hk hx hs
  have h2 : ∀ p ∈ plD xs x, p ∈ plc x := by
    intro p hp
    unfold plD at hp
    split at hp
    · rename_i h
      unfold plc
      rw [h.1, kids7, if_pos rfl]
      simp only [List.mem_cons, List.not_mem_nil, or_false] at hp ⊢
      omega
    · exact hp
  intro p hp
  have h3 := h2 p hp
  have h4 := h1 p h3
  refine ⟨p.toNat, by omega, by omega, ?_⟩
  unfold plc at h3
  rcases kids_cases x.o with q | q | q
  · rw [q] at h3; simp at h3
  · rw [q] at h3; simp at h3; subst h3; exact s1 (by omega)
  · rw [q] at h3; simp at h3
    rcases h3 with rfl | rfl
    · exact s1 (by omega)
    · exact s2 (by omega)

theorem igetD_at {w : World} {a : Option Addr} {zs : List Int} (h : Rd .i64 w a zs) (q : Nat) (hq : q < zs.length) : ∃ b o, a = some ⟨b, o, Option.none⟩ ∧ w.cell? ⟨b, o + q, Option.none⟩ = some (.int .i64 (zs.getD q 0)) := by
  rcases h with h | ⟨b, o, h, hc⟩
  · subst h; simp at hq
  · exact ⟨b, o, h, hc q hq⟩

set_option maxRecDepth 20000 in
set_option maxHeartbeats 4000000 in
theorem placesTold_ok (a : Option Addr) (n ca : Nat) (xs : List T4) (hv : tfC xs = 0) (hn : xs.length = n) (k : Nat) (hk : k < n) (x : T4) (hx : xs.getD k zTerm = x) (w : World) (ha : RdTerm w a xs) :
    Calls Tryz.prog 58 #[.slice a n ca, .agg #[.int .i64 x.o, .int .i64 x.a, .int .i64 x.b, .int .i64 x.n]] w fun e w' => ∃ c d, e = .returned (.slice c (plD xs x).length d) ∧ Own .i64 2 w' w.heap.size c d (plD xs x) ∧ Below w.heap.size w w' := by
  have ho := op_right hv k (by omega) hx
  have CP := Hid.mk (fun w => placesIn_ok x ho w)
  rw [plD_len]
  by_cases h7 : x.o = 7
  · obtain ⟨k1, k2⟩ := tfC_ahead hv k (by omega)
    rw [hx, h7, kids7] at k1 k2
    obtain ⟨a1, a2⟩ := k1 (by decide)
    obtain ⟨c1, c2⟩ := k2 (by decide)
    obtain ⟨i, hi⟩ := Int.eq_ofNat_of_zero_le a1
    obtain ⟨j, hj⟩ := Int.eq_ofNat_of_zero_le c1
    have hpl : plc x = [(i : Int), (j : Int)] := by unfold plc; rw [h7, kids7, if_pos rfl, hi, hj]
    have hpt : plD xs x = if (xs.getD j zTerm).n < (xs.getD i zTerm).n then [(j : Int), (i : Int)] else [(i : Int), (j : Int)] := by
      unfold plD
      rw [hpl, hi, hj, Int.toNat_natCast, Int.toNat_natCast]
      simp only [h7, true_and]
    rw [hpl] at CP ⊢
    rw [hpt]
    have hin : i < n := by omega
    have hjn : j < n := by omega
    have hil : (i : Int) < (n : Int) := by omega
    have hjl : (j : Int) < (n : Int) := by omega
    obtain ⟨b1, o1, rfl⟩ := RdTerm.addr ha (by omega)
    obtain ⟨yi, hyi⟩ : ∃ y, xs.getD i zTerm = y := ⟨_, rfl⟩
    obtain ⟨yj, hyj⟩ : ∃ y, xs.getD j zTerm = y := ⟨_, rfl⟩
    rw [hyi, hyj]
    have HN := Hid.mk hn
    have Hyi := Hid.mk hyi
    have Hyj := Hid.mk hyj
    obtain ⟨o, ta, tb, nn⟩ := x
    simp only at *
    subst h7
    subst hi
    subst hj
    clear hv hn hx hyi hyj hpl hpt ho k1 k2 a1 a2 c1 c2
    by_cases hc : yj.n < yi.n
    · rw [if_pos hc]
      go_enter Tryz.func58, Tryz.ntmps58
      have B := Below.refl w.heap.size w
      have Bo := B
      replace ha := ha.kept (belowA w (.cells #[.int .i64 7, .int .i64 (i : Int), .int .i64 (j : Int), .int .i64 nn] 70))
      replace B := thenB B (belowA w (.cells #[.int .i64 7, .int .i64 (i : Int), .int .i64 (j : Int), .int .i64 nn] 70))
      have VT := V.new w [.int .i64 7, .int .i64 (i : Int), .int .i64 (j : Int), .int .i64 nn] 70
      obtain ⟨s_VT, f_VT, z_VT⟩ := VT.open
      have Bo := B
      go_wp2_with fail
      refine (CP.out _).mono ?_
      rintro e w11 ⟨c, d, rfl, O, b11⟩
      clear s_VT f_VT z_VT
      have S11 := b11.size
      simp only [World.size_alloc] at S11
      replace VT := VT.kept b11
      replace ha := ha.kept b11
      replace B := thenB B b11
      clear b11
      obtain ⟨s_VT, f_VT, z_VT⟩ := VT.open
      have Bo := B
      obtain ⟨r0, r1, r2, r3⟩ := RdTerm.at ha i (by have := HN.out; omega) yi Hyi.out
      obtain ⟨t0, t1, t2, t3⟩ := RdTerm.at ha j (by have := HN.out; omega) yj Hyj.out
      clear r0 r1 r2 t0 t1 t2
      go_wp2_with fail
      go_quiet (fail)
      clear s_VT f_VT z_VT
      have bq := belowN (Below.refl (w11).heap.size (w11)) nq
      replace VT := VT.kept bq
      replace ha := ha.kept bq
      replace O := O.kept bq
      replace B := thenB B bq
      clear bq
      generalize World.drewN w11 nq = wn12 at *
      obtain ⟨s_VT, f_VT, z_VT⟩ := VT.open
      have Bo := B
      clear r3 t3
      have hc0 : ∃ g, c = some ⟨g, 0, none⟩ := by
        rcases O.2 with ⟨_, h0⟩ | ⟨g, cap', cur, hv, _⟩
        · simp at h0
        · simp only [Value.slice.injEq] at hv; exact ⟨g, hv.1⟩
      obtain ⟨gg, rfl⟩ := hc0
      have hOl := O.lt _ rfl
      simp only [World.size_alloc] at hOl
      go_wp2_with fail
      refine (reverse2_ok _ gg d (i : Int) (j : Int) _ O).mono ?_
      rintro e w9 ⟨rfl, O9, g9⟩
      clear s_VT f_VT z_VT
      have O9' := Hid.mk (O9.mono (base' := w.heap.size) (by simp only [World.size_alloc]; omega))
      have B9 := Hid.mk (belowG (c := some ⟨gg, 0, none⟩) B g9 B.size (fun b hb => by simp only [Option.some.injEq] at hb; subst hb; simp only; omega))
      clear O9 g9 B Bo VT
      go_wp2
      go_ret
      exact ⟨some ⟨gg, 0, none⟩, d, rfl, O9'.out, B9.out⟩
    · rw [if_neg hc]
      go_enter Tryz.func58, Tryz.ntmps58
      have B := Below.refl w.heap.size w
      have Bo := B
      replace ha := ha.kept (belowA w (.cells #[.int .i64 7, .int .i64 (i : Int), .int .i64 (j : Int), .int .i64 nn] 70))
      replace B := thenB B (belowA w (.cells #[.int .i64 7, .int .i64 (i : Int), .int .i64 (j : Int), .int .i64 nn] 70))
      have VT := V.new w [.int .i64 7, .int .i64 (i : Int), .int .i64 (j : Int), .int .i64 nn] 70
      obtain ⟨s_VT, f_VT, z_VT⟩ := VT.open
      have Bo := B
      go_wp2_with fail
      refine (CP.out _).mono ?_
      rintro e w31 ⟨c, d, rfl, O, b31⟩
      clear s_VT f_VT z_VT
      have S31 := b31.size
      simp only [World.size_alloc] at S31
      replace VT := VT.kept b31
      replace ha := ha.kept b31
      replace B := thenB B b31
      clear b31
      obtain ⟨s_VT, f_VT, z_VT⟩ := VT.open
      have Bo := B
      obtain ⟨r0, r1, r2, r3⟩ := RdTerm.at ha i (by have := HN.out; omega) yi Hyi.out
      obtain ⟨t0, t1, t2, t3⟩ := RdTerm.at ha j (by have := HN.out; omega) yj Hyj.out
      clear r0 r1 r2 t0 t1 t2
      go_wp2_with fail
      go_quiet (fail)
      clear s_VT f_VT z_VT
      have bq := belowN (Below.refl (w31).heap.size (w31)) nq
      replace VT := VT.kept bq
      replace ha := ha.kept bq
      replace O := O.kept bq
      replace B := thenB B bq
      clear bq
      generalize World.drewN w31 nq = wn32 at *
      obtain ⟨s_VT, f_VT, z_VT⟩ := VT.open
      have Bo := B
      clear r3 t3
      have O9' := Hid.mk (O.mono (base' := w.heap.size) (by simp only [World.size_alloc]; omega))
      go_wp2
      go_ret
      exact ⟨c, d, rfl, O9'.out, Bo⟩
  · have h8 : (x.o == 7) = false := by simp [h7]
    have hpt : plD xs x = plc x := by unfold plD; rw [if_neg (fun h => h7 h.1)]
    rw [hpt]
    clear hv hx hpt ho h7 hn hk
    go_enter Tryz.func58, Tryz.ntmps58
    have B := Below.refl w.heap.size w
    have Bo := B
    replace B := thenB B (belowA w (.cells #[.int .i64 x.o, .int .i64 x.a, .int .i64 x.b, .int .i64 x.n] 70))
    have VT := V.new w [.int .i64 x.o, .int .i64 x.a, .int .i64 x.b, .int .i64 x.n] 70
    obtain ⟨s_VT, f_VT, z_VT⟩ := VT.open
    have Bo := B
    go_wp2_with fail
    refine (CP.out _).mono ?_
    rintro e w51 ⟨c, d, rfl, O, b51⟩
    clear s_VT f_VT z_VT
    have S51 := b51.size
    simp only [World.size_alloc] at S51
    replace VT := VT.kept b51
    replace B := thenB B b51
    clear b51
    obtain ⟨s_VT, f_VT, z_VT⟩ := VT.open
    have Bo := B
    go_wp2_with fail
    go_quiet (fail)
    clear s_VT f_VT z_VT
    have bq := belowN (Below.refl (w51).heap.size (w51)) nq
    replace VT := VT.kept bq
    replace O := O.kept bq
    replace B := thenB B bq
    clear bq
    generalize World.drewN w51 nq = wn52 at *
    obtain ⟨s_VT, f_VT, z_VT⟩ := VT.open
    have Bo := B
    have O9' := Hid.mk (O.mono (base' := w.heap.size) (by simp only [World.size_alloc]; omega))
    go_wp2
    go_ret
    exact ⟨c, d, rfl, O9'.out, Bo⟩

end Go.Proofs.YtfldgeokigcokaaGreat

/- What is written piece by piece: pieces behind an interface. -/
namespace Go.Proofs.YtfldgeokigcokaaGreat
open Go.RowKit

/-- The block of a row. -/
def RowB (c : Option Addr) (k : Nat) : Prop := ∃ b : Addr, c = some b ∧ b.block = k

theorem RowB.own {w : World} {base : Nat} {c : Option Addr} {d : Nat} {zs : List Int} (h : Own .u8 5 w base c d zs) {k : Nat} (hk : RowB c k) : base ≤ k ∧ k < w.heap.size := by
  obtain ⟨b, hb, rfl⟩ := hk
  exact h.lt b hb

/-- What a writing leaves: the row with more behind it; all else is as it was. -/
structure Wrt (base : Nat) (w : World) (c c' : Option Addr) (d' : Nat) (zs : List Int) (w' : World) : Prop where
  own : Own .u8 5 w' base c' d' zs
  sm : Sm (RowB c) w w'
  lies : ∀ k, RowB c' k → RowB c k ∨ w.heap.size ≤ k

theorem Wrt.trans {base : Nat} {w w1 w2 : World} {c c1 c2 : Option Addr} {d1 d2 : Nat} {zs1 zs2 : List Int} (h : Wrt base w c c1 d1 zs1 w1) (k : Wrt base w1 c1 c2 d2 zs2 w2) : Wrt base w c c2 d2 zs2 w2 := by
  refine ⟨k.own, Sm.less h.sm.size k.sm (fun i hi hx => ?_) h.sm, fun i hi => ?_⟩
  · rcases h.lies i hx with e | e
    · exact e
    · omega
  · rcases k.lies i hi with e | e
    · exact h.lies i e
    · exact .inr (Nat.le_trans h.sm.size e)

/-- A piece that writes so many bytes, wherever its blocks S are as they are in w0. -/
def WP (S : Nat → Prop) (w0 : World) (u : Value) (bs : List Int) : Prop :=
  ∀ (w : World) (base : Nat) (c : Option Addr) (n d : Nat) (zs : List Int), (∀ k, S k → k < w.heap.size ∧ w.heap[k]? = w0.heap[k]?) → Own .u8 5 w base c d zs → zs.length = n → base ≤ w.heap.size → (∀ k, RowB c k → ¬ S k) → n + bs.length ≤ 1000000 →
    Calls Tryz.prog 27 #[.slice c n d, u] w fun e w' => ∃ c' d', e = .returned (.slice c' (n + bs.length) d') ∧ Wrt base w c c' d' (zs ++ bs) w'

theorem WP.more {S S' : Nat → Prop} {w0 w1 : World} {u : Value} {bs : List Int} (h : WP S w0 u bs) (hs : ∀ k, S k → S' k) (hw : ∀ k, S k → w1.heap[k]? = w0.heap[k]?) : WP S' w1 u bs :=
  fun w base c n d zs h1 h2 hn h3 h4 h5 => h w base c n d zs (fun k hk => ⟨(h1 k (hs k hk)).1, (h1 k (hs k hk)).2.trans (hw k hk)⟩) h2 hn h3 (fun k hk e => h4 k hk (hs k e)) h5

theorem append_t2 {P : Program} {t t2 ty e e2 : TypeId} {i : TypeInfo} {b : Option Addr} {n c : Nat} {x : Value} {w : World} (ht : P.underlying t = some (.slice e)) (ht2 : P.underlying t2 = some (.slice e2)) (hi : P.info? e = some i) :
    (Builtin.append_ #[t, t2] ty #[.slice b n c, x]).run P w = (Builtin.append_ #[t, t] ty #[.slice b n c, x]).run P w := by
  simp [Builtin.append_, run_underlying ht, run_underlying ht2, sizeOf, typeInfo, hi]

/-- 'append(data, x...)' onto a row of one's own: where it lies. -/
theorem wpList_appW {ops : Array Oper} {rest : List Oper} {o : Oper} {a : Act} {Q : Exit → Act → World → Prop} (w : World) (hgd : o.guard = none) (s x : Operand) (t t2 : TypeId)
    (ho : o.op = .call { callee := .builtin .append, args := #[s, x], argTypes := #[t, t2] }) (ht2 : Tryz.prog.underlying t2 = some (.slice 5))
    (base : Nat) (i : TypeInfo) (ht : Tryz.prog.underlying t = some (.slice 5)) (hi : Tryz.prog.info? 5 = some i) (hz : i.zero = some (.int .u8 0)) (hsize : i.size = 1) (hby : i.bytes = 1)
    (c0 : Option Addr) (cap n : Nat) (l : List Int) (hs : a.eval s = .slice c0 n cap) (hown : Own .u8 5 w base c0 cap l) (hn : l.length = n)
    (c : Option Addr) (m d : Nat) (zs : List Int) (hx : a.eval x = .slice c m d) (hr : Rd .u8 w c zs) (hm : zs.length = m) (hc : c = none → d = 0)
    (h63 : n + m ≤ 1000000) (hbase : base ≤ w.heap.size)
    (h : ∀ c' d' w', Wrt base w c0 c' d' (l ++ zs) w' → wpList Tryz.prog ops Q rest (a.put o.dst (.slice c' (n + m) d')) w') : wpList Tryz.prog ops Q (o :: rest) a w := by
  refine wpList_plain hgd fun K hK => ?_
  have e0 : (Value.slice c0 n cap).ownBlock = c0.map Addr.block := by cases c0 <;> rfl
  have gr : ∀ w', w.grownBy w' (c0.map Addr.block) → Sm (RowB c0) w w' := fun w' hg => Sm.grown hg (fun k hk => by
    cases c0 with
    | none => cases hk
    | some b => simp only [Option.map_some, Option.some.injEq] at hk; exact ⟨b, rfl, hk⟩)
  have fin : ∀ v' w', w'.ownsRow base 5 1 v' (n + m) ((l ++ zs).map (Value.int .u8)) → w.grownBy w' (Value.slice c0 n cap).ownBlock → (v'.ownBlock = (Value.slice c0 n cap).ownBlock ∨ v'.ownBlock = some w.heap.size) → K (a.put o.dst v') w' := by
    intro v' w' h1 h2 h3
    obtain ⟨c', d', rfl⟩ := ownsRow_shape h1
    rw [e0] at h2 h3
    refine hK _ _ (h c' d' w' ⟨Own.mk h1 (by simp [hn, hm]), gr _ h2, fun k hk => ?_⟩)
    obtain ⟨b, rfl, rfl⟩ := hk
    have e1 : (Value.slice (some b) (n + m) d').ownBlock = some b.block := rfl
    rw [e1] at h3
    rcases h3 with h3 | h3
    · left
      cases c0 with
      | none => cases h3
      | some q => simp only [Option.map_some, Option.some.injEq] at h3; exact ⟨q, rfl, h3.symm⟩
    · right; simp only [Option.some.injEq] at h3; omega
  cases c with
  | none =>
    have hd := hc rfl
    subst hd
    have hz0 : zs = [] := by
      rcases hr with h0 | ⟨b, off, h0, _⟩
      · exact h0
      · cases h0
    subst hz0
    simp only [List.length_nil] at hm
    subst hm
    have hr2 := run_append_owned_none (P := Tryz.prog) w base t o.type 5 i 1 ht hi (.slice c0 n cap) n _ (hown.row hn)
    unfold Oper.wp execOp
    simp only [ho, resolve, invoke, builtin, Sem.run_bind, Sem.run_pure, Result.andThen_ok, List.map_toArray, List.map_cons, List.map_nil, hs, hx, append_t2 ht ht2 hi, hr2]
    exact fin _ w (by simpa using hown.row hn) (World.grownBy.refl _ _) (.inl rfl)
  | some ad =>
    obtain ⟨v', w', hrun, h1, h2, _, h4⟩ := run_append_own_at (P := Tryz.prog) w base t o.type 5 i (.int .u8 0) 1 1 ht hi hz hsize hby rfl (by decide) (.slice c0 n cap) n _ (hown.row hn) ad m d (zs.map (Value.int .u8)) (by simp [hm]) (fun j u hj => by
      rcases hr with h0 | ⟨b, off, h0, hcell⟩
      · subst h0; simp at hj
      · simp only [Option.some.injEq] at h0
        subst h0
        have hj' : j < zs.length := by
          rcases Nat.lt_or_ge j zs.length with h | h
          · exact h
          · simp [List.getElem?_eq_none h] at hj
        rw [Addr.add_lit, hcell j hj']
        simp [hj'] at hj
        subst hj
        simp [List.getD, hj']) (ints_oneCell _ _) (by unfold maxLen; omega) (by omega) hbase
    unfold Oper.wp execOp
    simp only [ho, resolve, invoke, builtin, Sem.run_bind, Sem.run_pure, Result.andThen_ok, List.map_toArray, List.map_cons, List.map_nil, hs, hx, append_t2 ht ht2 hi, hrun]
    exact fin v' w' (by simpa using h1) h2 h4

/-- A number is written. -/
theorem wp_num (S : Nat → Prop) (w0 : World) (v : Int) (s : Nat) (hp : ptIn v s) : WP S w0 (.iface 96 (.agg #[.int .i64 v, .int .i64 (s : Int)])) (putN v s) := by
  intro w base c n d zs _ O hn hbase _ hlen
  rw [length_putN] at hlen ⊢
  have CN := Hid.mk (fun w => numberBytes_ok v s w hp)
  have hta1 : ∀ wx : World, (Instr.typeAssert (.iface 96 (.agg #[.int .i64 v, .int .i64 (s : Int)])) 94 96 true).run Tryz.prog wx = .ok (.tuple #[.agg #[.int .i64 v, .int .i64 (s : Int)], .bool true]) wx := fun _ => by kernel_rfl
  obtain ⟨i0, hi, g0, g1, g2⟩ := info_parts Tryz.info_u8
  have HOW := Hid.mk O
  have HN := Hid.mk hn
  clear O hn
  go_enter Tryz.func27, Tryz.ntmps27
  have VX := V.new w [.int .i64 v, .int .i64 (s : Int)] 96
  obtain ⟨s_VX, f_VX, z_VX⟩ := VX.open
  go_wp2_with fail
  refine (CN.out _).mono ?_
  rintro e w1 ⟨c1, d1, rfl, O1, b1⟩
  clear s_VX f_VX z_VX VX
  have B1 := thenB (belowA w (.cells #[.int .i64 v, .int .i64 (s : Int)] 96)) b1
  have HO := Hid.mk (HOW.out.kept B1)
  have HR := Hid.mk O1.rd
  have hnc := O1.nocap
  have hsz := B1.size
  have S1 := Hid.mk (Sm.below (X := RowB c) B1)
  clear O1 b1 B1
  go_wp2_with (at_builtin; go_loud (refine wpList_appW _ rfl _ _ 22 22 rfl Tryz.underlying22 base i0 Tryz.underlying22 hi g0 g1 g2 c d n zs rfl HO.out HN.out c1 s d1 (putN v s) rfl HR.out (length_putN v s) hnc hlen (by omega) ?_))
  intro c' d' w2 W2
  have W3 := Hid.mk (Wrt.trans (base := base) ⟨HO.out, S1.out, fun k hk => .inl hk⟩ W2)
  clear W2
  go_wp2
  go_ret
  exact ⟨c', d', rfl, W3.out⟩

end Go.Proofs.YtfldgeokigcokaaGreat

/- A list of pieces is written, each behind the other. -/
namespace Go.Proofs.YtfldgeokigcokaaGreat
open Go.RowKit

theorem getD_bss (bss : List (List Int)) (k : Nat) (h : k < bss.length) : bss.getD k [] = bss[k] := by simp [List.getD, h]

theorem flat_next (bss : List (List Int)) (k : Nat) (h : k < bss.length) : (bss.take (k + 1)).flatten = (bss.take k).flatten ++ bss.getD k [] := by
  rw [getD_bss bss k h, List.take_add_one, List.flatten_append, List.getElem?_eq_getElem h, Option.toList_some, List.flatten_cons, List.flatten_nil, List.append_nil]

theorem flat_le (bss : List (List Int)) (k : Nat) (h : k < bss.length) : (bss.take k).flatten.length + (bss.getD k []).length ≤ bss.flatten.length := by
  have h1 : bss.flatten = (bss.take k).flatten ++ (bss.drop k).flatten := by rw [← List.flatten_append, List.take_append_drop]
  rw [h1, List.drop_eq_getElem_cons h, List.flatten_cons, List.length_append, List.length_append, getD_bss bss k h]
  omega

set_option maxRecDepth 20000 in
set_option maxHeartbeats 4000000 in
theorem wp_list (S : Nat → Prop) (w0 : World) (g n q : Nat) (us : List Value) (bss : List (List Int)) (hu : us.length = n) (hb : bss.length = n) (hn4 : n ≤ 1000) (hS : S g) (hc : ∀ (i : Nat) (u : Value), us[i]? = some u → w0.cell? ⟨g, i, none⟩ = some u)
    (hw : ∀ (i : Nat) (u : Value), us[i]? = some u → WP S w0 u (bss.getD i [])) : WP S w0 (.iface 56 (.slice (some ⟨g, 0, none⟩) n q)) bss.flatten := by
  intro w base c m d zs hs O hm hbase hne hlen
  have hta1 : ∀ wx : World, (Instr.typeAssert (.iface 56 (.slice (some ⟨g, 0, none⟩) n q)) 94 96 true).run Tryz.prog wx = .ok (.tuple #[.agg #[.int .i64 0, .int .i64 0], .bool false]) wx := fun _ => by kernel_rfl
  have hta2 : ∀ wx : World, (Instr.typeAssert (.iface 56 (.slice (some ⟨g, 0, none⟩) n q)) 94 98 true).run Tryz.prog wx = .ok (.tuple #[.slice none 0 0, .bool false]) wx := fun _ => by kernel_rfl
  have hta3 : ∀ wx : World, (Instr.typeAssert (.iface 56 (.slice (some ⟨g, 0, none⟩) n q)) 94 56 true).run Tryz.prog wx = .ok (.tuple #[.slice (some ⟨g, 0, none⟩) n q, .bool true]) wx := fun _ => by kernel_rfl
  have HS := Hid.mk hs
  have HNE := Hid.mk hne
  have HC := Hid.mk hc
  have HW := Hid.mk hw
  have HL := Hid.mk hlen
  have HB := Hid.mk hb
  have HU := Hid.mk hu
  have HM := Hid.mk hm
  have HBS := Hid.mk hbase
  have hgs : Hid (S g) := Hid.mk hS
  have W0 : Hid (Wrt base w c c d (zs ++ (bss.take 0).flatten) w) := Hid.mk ⟨by simpa using O, Sm.refl _ _, fun k hk => .inl hk⟩
  clear hs hne hc hw hlen hb hu hm hbase hS O
  go_enter Tryz.func27, Tryz.ntmps27
  go_wp2
  go_loopw [0, 32] (fun s i wr => ∃ (k : Nat) (c' : Option Addr) (d' N : Nat), k ≤ n ∧ i = .int .i64 k ∧ s = .slice c' N d' ∧ Hid (N = m + (bss.take k).flatten.length) ∧ Hid (Wrt base w c c' d' (zs ++ (bss.take k).flatten) wr)) (fun _ i _ => n - (intOf i).toNat)
  case atStart => exact ⟨0, c, d, m, Nat.zero_le _, rfl, rfl, Hid.mk (by simp), W0⟩
  case round =>
    clear W0
    obtain ⟨k, c', d', N, hk, rfl, rfl, hN, W⟩ := hrel
    by_cases hlt : k < n
    · have hk1 : (k : Int) < (n : Int) := by omega
      obtain ⟨u, hu⟩ : ∃ u, us[k]? = some u := ⟨_, List.getElem?_eq_getElem (by rw [HU.out]; exact hlt)⟩
      have hblk : ∀ j, S j → j < wr.heap.size ∧ wr.heap[j]? = w0.heap[j]? := fun j hj => by
        obtain ⟨h1, h2⟩ := HS.out j hj
        exact ⟨Nat.lt_of_lt_of_le h1 W.out.sm.size, (W.out.sm.block j h1 (fun e => HNE.out j e hj)).trans h2⟩
      have hcell : wr.cell? ⟨g, k, none⟩ = some u := (World.cell?_of_block (a := ⟨g, k, none⟩) (hblk g hgs.out).2).trans (HC.out k u hu)
      have hfl := flat_le bss k (by rw [HB.out]; exact hlt)
      have hlen : N + (bss.getD k []).length ≤ 1000000 := by have := hN.out; have := HL.out; omega
      have hNl : (zs ++ (bss.take k).flatten).length = N := by rw [List.length_append, HM.out, hN.out]
      have CW := Hid.mk (HW.out k u hu wr base c' N d' _ hblk W.out.own hNl (Nat.le_trans HBS.out W.out.sm.size) (fun j hj e => by
        rcases W.out.lies j hj with h | h
        · exact HNE.out j h e
        · have := (HS.out j e).1; omega) hlen)
      have HNX := Hid.mk (flat_next bss k (by rw [HB.out]; exact hlt))
      clear hblk hfl hNl hu
      go_wp2_with fail
      refine CW.out.mono ?_
      rintro e w1 ⟨c1, d1, rfl, W1⟩
      have hsz := W1.sm.size
      have W2 : Hid (Wrt base w c c1 d1 (zs ++ (bss.take (k + 1)).flatten) w1) := Hid.mk (by rw [HNX.out, ← List.append_assoc]; exact W.out.trans W1)
      have hN2 : Hid (N + (bss.getD k []).length = m + (bss.take (k + 1)).flatten.length) := Hid.mk (by rw [HNX.out, List.length_append, hN.out]; omega)
      clear W W1 CW
      go_wp2
      go_roundw
      case rel => exact ⟨k + 1, c1, d1, _, by omega, by go_num, rfl, hN2, W2⟩
      case measure => simp [intOf]; omega
    · obtain rfl : k = n := by omega
      have he : bss.take k = bss := List.take_of_length_le (by rw [HB.out]; exact Nat.le_refl _)
      have HE := Hid.mk he
      clear he
      go_wp2
      go_ret
      exact ⟨c', d', by have h1 := hN.out; rw [HE.out] at h1; subst h1; rfl, by have h1 := W.out; rw [HE.out] at h1; exact h1⟩

end Go.Proofs.YtfldgeokigcokaaGreat
