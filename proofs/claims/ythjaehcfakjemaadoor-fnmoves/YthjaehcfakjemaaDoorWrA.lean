/- Terms as bytes: how deep, the bytes, read back, put with their parts (math). -/
import Derived.Test.YthjaehcfakjemaaDoorFmj
import Derived.Test.YthjaehcfakjemaaDoorFml
namespace Go.Proofs.YthjaehcfakjemaaDoor
open Go.RowKit

/-- How deep a term is. -/
def Tr.dp : Tr → Int
  | .leaf _ _ => 1
  | .one _ x => x.dp + 1
  | .two _ x y => max x.dp y.dp + 1

theorem Tr.dp_pos (t : Tr) : 1 ≤ t.dp := by
  induction t with
  | leaf _ _ => unfold Tr.dp; omega
  | one _ x ih => unfold Tr.dp; omega
  | two _ x y ih1 ih2 => unfold Tr.dp; omega

theorem mkTr_dp (t : T4) (x y : Tr) : (mkTr t x y).dp = (if 1 < kids t.o then max x.dp y.dp else if 0 < kids t.o then x.dp else 0) + 1 := by
  unfold mkTr
  rcases kids_cases t.o with h | h | h
  · rw [h]; simp [Tr.dp]
  · rw [h]; simp [Tr.dp]
  · rw [h]
    simp only [show (1 : Int) < 2 by decide, if_true]
    split
    · simp only [Tr.dp]; omega
    · simp only [Tr.dp]

/-- The depths of the first 'k'. -/
def dpL (xs : List T4) (k : Nat) : List Int := (List.range k).map fun i => (den xs i).dp

theorem dpL_len (xs : List T4) (k : Nat) : (dpL xs k).length = k := by simp [dpL]

theorem dpL_at (xs : List T4) (k i : Nat) (h : i < k) : (dpL xs k).getD i 0 = (den xs i).dp := by simp [dpL, List.getD, h]

theorem dpL_next (xs : List T4) (k : Nat) : dpL xs (k + 1) = dpL xs k ++ [(den xs k).dp] := by simp [dpL, List.range_succ]

theorem dp_step {xs : List T4} (k : Nat) (hk : k < xs.length) (h : Ahead xs) {x : T4} (hx : xs.getD k zTerm = x) :
    (den xs k).dp = (if 1 < kids x.o then max (den xs x.a.toNat).dp (den xs x.b.toNat).dp else if 0 < kids x.o then (den xs x.a.toNat).dp else 0) + 1 := by
  rw [den_at k hk h, hx, mkTr_dp]

theorem dp_le {xs : List T4} (h : Ahead xs) : ∀ m k, k ≤ m → k < xs.length → (den xs k).dp ≤ (k : Int) + 1 := by
  intro m
  induction m with
  | zero =>
    intro k hm hk
    obtain ⟨h1, h2⟩ := h k hk
    rw [dp_step k hk h rfl]
    generalize xs.getD k zTerm = t at *
    rcases kids_cases t.o with e | e | e <;> rw [e] at h1 h2 ⊢
    · simp; omega
    · have := h1 (by decide); omega
    · have := h1 (by decide); omega
  | succ m ih =>
    intro k hm hk
    obtain ⟨h1, h2⟩ := h k hk
    rw [dp_step k hk h rfl]
    generalize xs.getD k zTerm = t at *
    rcases kids_cases t.o with e | e | e <;> rw [e] at h1 h2 ⊢
    · simp; omega
    · have a1 := h1 (by decide)
      have := ih t.a.toNat (by omega) (by omega)
      simp only [show ¬ (1 : Int) < 1 by decide, show (0 : Int) < 1 by decide, if_true, if_false]; omega
    · have a1 := h1 (by decide)
      have a2 := h2 (by decide)
      have := ih t.a.toNat (by omega) (by omega)
      have := ih t.b.toNat (by omega) (by omega)
      simp only [show (1 : Int) < 2 by decide, if_true]; omega

theorem dp_in {xs : List T4} (h : tfC xs = 0) (k : Nat) (hk : k < xs.length) : 1 ≤ (den xs k).dp ∧ (den xs k).dp ≤ 400 := by
  have h1 := dp_le (tfC_ahead h) k k (Nat.le_refl _) hk
  have h2 := (tfC_zero h).1
  exact ⟨Tr.dp_pos _, by omega⟩

/-- What DepthOf answers beside its code. -/
@[irreducible] def dpV (xs : List T4) (q : Int) : Int := if akC xs q = 0 then (den xs q.toNat).dp else 0

theorem dpV_ways (xs : List T4) (q : Int) : (akC xs q ≠ 0 ∧ dpV xs q = 0) ∨ (akC xs q = 0 ∧ dpV xs q = (den xs q.toNat).dp) := by
  unfold dpV
  by_cases h : akC xs q = 0
  · exact .inr ⟨h, by rw [if_pos h]⟩
  · exact .inl ⟨h, by rw [if_neg h]⟩

/-- A term as bytes. -/
def Tr.enc : Tr → List Int
  | .leaf o n => [o, n / 256 % 256, n % 256]
  | .one o x => o :: x.enc
  | .two o x y => o :: (x.enc ++ y.enc)

theorem Tr.enc_pos (t : Tr) : 1 ≤ t.enc.length := by cases t <;> simp [Tr.enc]

/-- A term that bytes may be of. -/
def Tr.wf : Tr → Prop
  | .leaf o n => btw o 1 7 = true ∧ kids o = 0 ∧ 0 ≤ n ∧ n ≤ 9999
  | .one o x => kids o = 1 ∧ x.op = 2 ∧ x.wf
  | .two o x y => kids o = 2 ∧ (o = 7 → x.op = 2 ∧ y.op = 2 ∧ x.num ≤ y.num) ∧ x.wf ∧ y.wf

theorem wf_btw {o : Int} (h : 0 < kids o) : btw o 1 7 = true := by
  rw [btw_iff]
  rcases kids_ways o with ⟨e, _⟩ | ⟨e, _⟩ | ⟨e, _⟩ | ⟨e, _⟩ | ⟨e, _⟩ | ⟨_, _, _, _, _, e⟩ <;> omega

theorem Tr.wf_op {t : Tr} (h : t.wf) : btw t.op 1 7 = true := by
  cases t with
  | leaf o n => exact h.1
  | one o x => exact wf_btw (by have := h.1; simp only [Tr.op]; omega)
  | two o x y => exact wf_btw (by have := h.1; simp only [Tr.op]; omega)

theorem Tr.wf_fresh {t : Tr} (h : t.wf) (h2 : t.op = 2) : t = .leaf 2 t.num ∧ 0 ≤ t.num ∧ t.num ≤ 9999 := by
  have k2 := kids2
  cases t with
  | leaf o n => simp only [Tr.op] at h2; subst h2; exact ⟨rfl, h.2.2⟩
  | one o x => simp only [Tr.op] at h2; subst h2; have := h.1; omega
  | two o x y => simp only [Tr.op] at h2; subst h2; have := h.1; omega

theorem kids_one {o : Int} (h : kids o = 1) : o = 6 := by
  rcases kids_ways o with ⟨_, e⟩ | ⟨_, e⟩ | ⟨_, e⟩ | ⟨_, e⟩ | ⟨e, _⟩ | ⟨_, _, _, _, _, e⟩ <;> omega

/-- What stands in a right table may be of bytes. -/
theorem den_wf {xs : List T4} (h : tfC xs = 0) : ∀ m k, k ≤ m → k < xs.length → (den xs k).wf := by
  have HA := tfC_ahead h
  have N := tfC_nice h
  intro m
  induction m with
  | zero =>
    intro k hm hk
    obtain ⟨h1, h2⟩ := HA k hk
    have z := tm_zero ((tfC_zero h).2 k hk).1
    rw [den_at k hk HA]
    generalize xs.getD k zTerm = t at *
    unfold mkTr
    rcases kids_cases t.o with e | e | e <;> rw [e] at h1 h2 ⊢
    · simp only [show ¬ (0 : Int) = 2 by decide, show ¬ (0 : Int) = 1 by decide, if_false]
      exact ⟨btw_iff.2 z.1, e, z.2.1⟩
    · have := h1 (by decide); omega
    · have := h1 (by decide); omega
  | succ m ih =>
    intro k hm hk
    obtain ⟨h1, h2⟩ := HA k hk
    have z := tm_zero ((tfC_zero h).2 k hk).1
    have R := N.rise k hk
    have S : (xs.getD k zTerm).o = 6 → (tmAt xs (xs.getD k zTerm).a).o = 2 := fun e => by
      have k6 := kids6
      have a1 := h1 (by rw [e, k6]; decide)
      have := (tmSec_false (z.2.2.2.2.2.2 (ofSec_iff.2 (.inl e)))).1
      rw [tmAt_take _ _ _ a1.1 a1.2] at this
      exact this
    have fr : ∀ i : Int, 0 ≤ i → i < k → (tmAt xs i).o = 2 → (den xs i.toNat).op = 2 := fun i h0 hi e => by
      rw [den_op _ (by omega) HA]; exact e
    rw [den_at k hk HA]
    generalize xs.getD k zTerm = t at *
    unfold mkTr
    rcases kids_cases t.o with e | e | e <;> rw [e] at h1 h2 ⊢
    · simp only [show ¬ (0 : Int) = 2 by decide, show ¬ (0 : Int) = 1 by decide, if_false]
      exact ⟨btw_iff.2 z.1, e, z.2.1⟩
    · simp only [show ¬ (1 : Int) = 2 by decide, if_false, if_true]
      have a1 := h1 (by decide)
      exact ⟨e, fr _ a1.1 a1.2 (S (kids_one e)), ih _ (by omega) (by omega)⟩
    · simp only [if_true]
      have a1 := h1 (by decide)
      have a2 := h2 (by decide)
      have w1 := ih t.a.toNat (by omega) (by omega)
      have w2 := ih t.b.toNat (by omega) (by omega)
      split
      · rename_i hs
        obtain ⟨r1, r2, _⟩ := R hs.1
        exact ⟨e, fun _ => ⟨fr _ a2.1 a2.2 r2, fr _ a1.1 a1.2 r1, by omega⟩, w2, w1⟩
      · rename_i hs
        refine ⟨e, fun h7 => ?_, w1, w2⟩
        obtain ⟨r1, r2, _⟩ := R h7
        exact ⟨fr _ a1.1 a1.2 r1, fr _ a2.1 a2.2 r2, by omega⟩

theorem Tr.enc_len (t : Tr) (h : t.sz < 1000000) : (t.enc.length : Int) ≤ 3 * t.sz := by
  induction t with
  | leaf _ _ => simp [Tr.enc, Tr.sz]
  | one _ x ih => simp only [Tr.sz] at h ⊢; have := ih (by omega); simp only [Tr.enc, List.length_cons]; omega
  | two _ x y ih1 ih2 =>
    simp only [Tr.sz] at h ⊢
    have p := x.sz_in
    have q := y.sz_in
    have := ih1 (by omega)
    have := ih2 (by omega)
    simp only [Tr.enc, List.length_cons, List.length_append]; omega

theorem Tr.sz_enc (t : Tr) : t.sz ≤ t.enc.length := by
  induction t with
  | leaf _ _ => simp [Tr.enc, Tr.sz]
  | one _ x ih => simp only [Tr.enc, Tr.sz, List.length_cons]; omega
  | two _ x y ih1 ih2 => simp only [Tr.enc, Tr.sz, List.length_cons, List.length_append]; omega

theorem Tr.dp_enc (t : Tr) : t.dp ≤ t.enc.length := by
  induction t with
  | leaf _ _ => simp [Tr.enc, Tr.dp]
  | one _ x ih => simp only [Tr.enc, Tr.dp, List.length_cons]; omega
  | two _ x y ih1 ih2 => simp only [Tr.enc, Tr.dp, List.length_cons, List.length_append]; omega

theorem enc_byte {t : Tr} (h : t.wf) : ∀ x ∈ t.enc, 0 ≤ x ∧ x < 256 := by
  induction t with
  | leaf o n =>
    intro x hx
    have h1 := btw_iff.1 h.1
    simp only [Tr.enc, List.mem_cons, List.not_mem_nil, or_false] at hx
    rcases hx with rfl | rfl | rfl <;> omega
  | one o x ih =>
    intro z hz
    have h1 := btw_iff.1 (wf_btw (o := o) (by have := h.1; omega))
    simp only [Tr.enc, List.mem_cons] at hz
    rcases hz with rfl | hz
    · omega
    · exact ih h.2.2 z hz
  | two o x y ih1 ih2 =>
    intro z hz
    have h1 := btw_iff.1 (wf_btw (o := o) (by have := h.1; omega))
    simp only [Tr.enc, List.mem_cons, List.mem_append] at hz
    rcases hz with rfl | hz | hz
    · omega
    · exact ih1 h.2.2.1 z hz
    · exact ih2 h.2.2.2 z hz

/-- The term that begins at a place of bytes, and where it ends; not deeper than told. -/
def prs : Nat → List Int → Nat → Option (Tr × Nat)
  | 0, _, _ => none
  | f + 1, ds, k =>
    if k < ds.length ∧ btw (ds.getD k 0) 1 7 = true then
      if kids (ds.getD k 0) = 0 then
        (if k + 3 ≤ ds.length ∧ ds.getD (k + 1) 0 * 256 + ds.getD (k + 2) 0 ≤ 9999 then some (.leaf (ds.getD k 0) (ds.getD (k + 1) 0 * 256 + ds.getD (k + 2) 0), k + 3) else none)
      else
        match prs f ds (k + 1) with
        | none => none
        | some (x, e) =>
          if kids (ds.getD k 0) = 1 then (if x.op = 2 then some (.one (ds.getD k 0) x, e) else none)
          else match prs f ds e with
            | none => none
            | some (y, e2) => if ds.getD k 0 = 7 ∧ ¬ (x.op = 2 ∧ y.op = 2 ∧ x.num ≤ y.num) then none else some (.two (ds.getD k 0) x y, e2)
    else none

theorem getD_drop (ds : List Int) (k i : Nat) : (ds.drop k).getD i 0 = ds.getD (k + i) 0 := by simp [List.getD, List.getElem?_drop]

theorem drop_get (ds : List Int) (k : Nat) (h : k < ds.length) : ds.drop k = ds.getD k 0 :: ds.drop (k + 1) := by
  rw [List.drop_eq_getElem_cons h]; simp [List.getD, h]

/-- The bytes of a term that is read are there. -/
theorem prs_enc : ∀ (f : Nat) (ds : List Int) (k : Nat) (t : Tr) (e : Nat), (∀ x ∈ ds, 0 ≤ x ∧ x < 256) → prs f ds k = some (t, e) → t.wf ∧ t.dp ≤ f ∧ e = k + t.enc.length ∧ e ≤ ds.length ∧ ds.drop k = t.enc ++ ds.drop e := by
  intro f
  induction f with
  | zero => intro ds k t e _ h; simp [prs] at h
  | succ f ih =>
    intro ds k t e hb h
    have byte : ∀ i, 0 ≤ ds.getD i 0 ∧ ds.getD i 0 < 256 := fun i => by
      by_cases hi : i < ds.length
      · have : ds.getD i 0 ∈ ds := by simp [List.getD, hi]
        exact hb _ this
      · simp [List.getD, List.getElem?_eq_none (Nat.le_of_not_lt hi)]
    rw [prs] at h
    split at h
    · rename_i hk
      split at h
      · rename_i h0
        split at h
        · rename_i h1
          simp only [Option.some.injEq, Prod.mk.injEq] at h
          obtain ⟨rfl, rfl⟩ := h
          have b1 := byte (k + 1)
          have b2 := byte (k + 2)
          refine ⟨⟨hk.2, h0, by omega, h1.2⟩, by simp [Tr.dp]; omega, by simp [Tr.enc], h1.1, ?_⟩
          rw [drop_get ds k hk.1, drop_get ds (k + 1) (by omega), drop_get ds (k + 2) (by omega)]
          simp only [Tr.enc, List.cons_append, List.nil_append, List.cons.injEq, true_and]
          exact ⟨by omega, by omega, trivial⟩
        · cases h
      · rename_i h0
        split at h
        · cases h
        · rename_i x e1 hx
          obtain ⟨w1, d1, e1', l1, r1⟩ := ih ds (k + 1) x e1 hb hx
          split at h
          · rename_i h2
            split at h
            · rename_i h3
              simp only [Option.some.injEq, Prod.mk.injEq] at h
              obtain ⟨rfl, rfl⟩ := h
              refine ⟨⟨h2, h3, w1⟩, by simp only [Tr.dp]; omega, by simp only [Tr.enc, List.length_cons]; omega, l1, ?_⟩
              rw [drop_get ds k hk.1, r1]; rfl
            · cases h
          · rename_i h2
            split at h
            · cases h
            · rename_i y e2 hy
              obtain ⟨w2, d2, e2', l2, r2⟩ := ih ds e1 y e2 hb hy
              split at h
              · cases h
              · rename_i h3
                simp only [Option.some.injEq, Prod.mk.injEq] at h
                obtain ⟨rfl, rfl⟩ := h
                have hk2 : kids (ds.getD k 0) = 2 := by rcases kids_cases (ds.getD k 0) with e | e | e <;> first | exact e | exact absurd e h0 | exact absurd e h2
                refine ⟨⟨hk2, fun h7 => ?_, w1, w2⟩, by simp only [Tr.dp]; omega, by simp only [Tr.enc, List.length_cons, List.length_append]; omega, l2, ?_⟩
                · by_cases hc : x.op = 2 ∧ y.op = 2 ∧ x.num ≤ y.num
                  · exact hc
                  · exact absurd ⟨h7, hc⟩ h3
                · rw [drop_get ds k hk.1, r1, r2]; simp [Tr.enc]
    · cases h

/-- A term is read from its bytes. -/
theorem enc_prs (t : Tr) : ∀ (f : Nat) (ds : List Int) (k : Nat) (rest : List Int), t.wf → t.dp ≤ f → ds.drop k = t.enc ++ rest → prs f ds k = some (t, k + t.enc.length) := by
  have step : ∀ (ds : List Int) (k : Nat) (o : Int) (zs : List Int), ds.drop k = o :: zs → k < ds.length ∧ ds.getD k 0 = o ∧ ds.drop (k + 1) = zs := by
    intro ds k o zs h
    have hk : k < ds.length := by
      rcases Nat.lt_or_ge k ds.length with h1 | h1
      · exact h1
      · rw [List.drop_of_length_le h1] at h; cases h
    rw [drop_get ds k hk] at h
    simp only [List.cons.injEq] at h
    exact ⟨hk, h.1, h.2⟩
  have cut : ∀ (ds : List Int) (k : Nat) (ys zs : List Int), ds.drop k = ys ++ zs → ds.drop (k + ys.length) = zs := by
    intro ds k ys zs h
    rw [← List.drop_drop, h, List.drop_left]
  induction t with
  | leaf o n =>
    intro f ds k rest w d h
    obtain ⟨f, rfl⟩ : ∃ g, f = g + 1 := ⟨f - 1, by simp only [Tr.dp] at d; omega⟩
    obtain ⟨w1, w2, w3, w4⟩ := w
    simp only [Tr.enc, List.cons_append, List.nil_append] at h
    obtain ⟨a1, a2, a3⟩ := step _ _ _ _ h
    obtain ⟨b1, b2, b3⟩ := step _ _ _ _ a3
    obtain ⟨c1, c2, c3⟩ := step _ _ _ _ b3
    have hn : n / 256 % 256 * 256 + n % 256 = n := by omega
    rw [prs, if_pos ⟨a1, by rw [a2]; exact w1⟩, if_pos (by rw [a2]; exact w2), a2, b2, c2, hn, if_pos ⟨by omega, w4⟩]
    simp [Tr.enc]
  | one o x ih =>
    intro f ds k rest w d h
    obtain ⟨f, rfl⟩ : ∃ g, f = g + 1 := ⟨f - 1, by simp only [Tr.dp] at d; have := x.dp_pos; omega⟩
    obtain ⟨w1, w2, w3⟩ := w
    simp only [Tr.enc, List.cons_append] at h
    simp only [Tr.dp] at d
    obtain ⟨a1, a2, a3⟩ := step _ _ _ _ h
    have hx := ih f ds (k + 1) rest w3 (by omega) a3
    rw [prs, if_pos ⟨a1, by rw [a2]; exact wf_btw (by omega)⟩, a2, if_neg (by omega), hx]
    simp only
    rw [if_pos w1, if_pos w2]
    simp [Tr.enc]; omega
  | two o x y ih1 ih2 =>
    intro f ds k rest w d h
    obtain ⟨f, rfl⟩ : ∃ g, f = g + 1 := ⟨f - 1, by simp only [Tr.dp] at d; have := x.dp_pos; omega⟩
    obtain ⟨w1, w2, w3, w4⟩ := w
    simp only [Tr.enc, List.cons_append, List.append_assoc] at h
    simp only [Tr.dp] at d
    obtain ⟨a1, a2, a3⟩ := step _ _ _ _ h
    have hx := ih1 f ds (k + 1) _ w3 (by omega) a3
    have hy := ih2 f ds (k + 1 + x.enc.length) rest w4 (by omega) (cut _ _ _ _ a3)
    rw [prs, if_pos ⟨a1, by rw [a2]; exact wf_btw (by omega)⟩, a2, if_neg (by omega), hx]
    simp only
    rw [if_neg (by omega), hy]
    simp only
    rw [if_neg (fun hc => hc.2 (w2 hc.1))]
    simp [Tr.enc]; omega

/-- The term that bytes are of. -/
def whole (ds : List Int) : Option Tr :=
  match prs 30 ds 0 with
  | none => none
  | some (t, e) => if e = ds.length ∧ t.sz ≤ 200 then some t else none

theorem whole_iff {ds : List Int} (hb : ∀ x ∈ ds, 0 ≤ x ∧ x < 256) (t : Tr) : whole ds = some t ↔ t.wf ∧ t.dp ≤ 30 ∧ t.sz ≤ 200 ∧ ds = t.enc := by
  unfold whole
  constructor
  · intro h
    split at h
    · cases h
    · rename_i t' e hp
      obtain ⟨w, d, h1, h2, h3⟩ := prs_enc _ _ _ _ _ hb hp
      split at h
      · rename_i hc
        simp only [Option.some.injEq] at h
        subst h
        refine ⟨w, by simpa using d, hc.2, ?_⟩
        rw [hc.1, List.drop_length, List.append_nil, List.drop_zero] at h3
        exact h3
      · cases h
  · rintro ⟨w, d, s, rfl⟩
    have := enc_prs t 30 t.enc 0 [] w (by simpa using d) (by simp)
    rw [this]
    simp [s]

/-- A term put into a table, its parts ahead. -/
def ptr : List T4 → Tr → Put
  | xs, .leaf o n => put xs ⟨o, 0, 0, n⟩
  | xs, .one o x => let A := ptr xs x; if A.c = 0 then put A.l ⟨o, A.k, 0, 0⟩ else A
  | xs, .two o x y =>
    let A := ptr xs x
    if A.c = 0 then
      let B := ptr A.l y
      if B.c = 0 then put B.l (if o = 7 then bothT A.k B.k else ⟨o, A.k, B.k, 0⟩) else B
    else A

/-- A term of right numbers that fits is put, unless the table is full. -/
theorem put_fits {xs : List T4} {t : T4} (h : tfC xs = 0) (F : Fits xs t) (ho : 1 ≤ t.o ∧ t.o ≤ 7) (hn : 0 ≤ t.n ∧ t.n ≤ 9999) (h6 : t.o = 6 → (tmAt xs t.a).o = 2) :
    (put xs t = ⟨2, 0, []⟩ ∧ 400 ≤ xs.length) ∨ ((put xs t).c = 0 ∧ tfC (put xs t).l = 0 ∧ (∃ ys, (put xs t).l = xs ++ ys) ∧ 0 ≤ (put xs t).k ∧ (put xs t).k < (put xs t).l.length ∧ den (put xs t).l (put xs t).k.toNat = denT xs t ∧ (put xs t).l.length ≤ xs.length + 1) := by
  have hz := fits_zero F ho hn h6
  have N := tfC_nice h
  have key : (put xs t).c = 0 → den (put xs t).l (put xs t).k.toNat = denT xs t := by
    intro hc
    rcases put_ways xs t with ⟨h1, _⟩ | ⟨_, h2, e⟩ | ⟨_, _, _, e⟩ | ⟨_, h2, h3, e⟩
    · exact absurd hz h1
    · rw [e]
      have hl := tmIdx_lt h2
      have ha := tmIdx_at h2
      simp only [Int.toNat_natCast]
      rw [den_at _ hl N.ahead, ha]; rfl
    · rw [e] at hc; simp at hc
    · rw [e]; exact den_snoc N F
  rcases put_ways xs t with ⟨h1, _⟩ | ⟨_, h2, e⟩ | ⟨_, _, h3, e⟩ | ⟨_, h2, h3, e⟩
  · exact absurd hz h1
  · have hc : (put xs t).c = 0 := by rw [e]
    obtain ⟨p1, p2, p3, p4, _⟩ := put_right h hc
    exact .inr ⟨hc, p1, p2, p3, p4, key hc, by rw [e]; simp⟩
  · exact .inl ⟨e, h3⟩
  · have hc : (put xs t).c = 0 := by rw [e]
    obtain ⟨p1, p2, p3, p4, _⟩ := put_right h hc
    exact .inr ⟨hc, p1, p2, p3, p4, key hc, by rw [e]; simp⟩

/-- What comes of a term put with its parts. -/
structure Came (xs : List T4) (t : Tr) (P : Put) : Prop where
  right : tfC P.l = 0
  pre : ∃ ys, P.l = xs ++ ys
  k0 : 0 ≤ P.k
  k1 : P.k < P.l.length
  den : den P.l P.k.toNat = t
  len : (P.l.length : Int) ≤ xs.length + t.enc.length

theorem Came.fresh {xs : List T4} {t : Tr} {P : Put} (C : Came xs t P) (h : t.op = 2) : (tmAt P.l P.k).o = 2 ∧ (tmAt P.l P.k).n = t.num := by
  have hA := tfC_ahead C.right
  have hk : P.k.toNat < P.l.length := by have := C.k0; have := C.k1; omega
  have h1 := den_op _ hk hA
  rw [C.den, h] at h1
  have h2 := den_fresh _ hk hA h1.symm
  rw [C.den] at h2
  unfold tmAt
  exact ⟨h1.symm, by rw [h2]; rfl⟩

theorem ptr_ways (t : Tr) : ∀ (xs : List T4), tfC xs = 0 → t.wf → (ptr xs t = ⟨2, 0, []⟩ ∧ 400 < (xs.length : Int) + t.enc.length) ∨ ((ptr xs t).c = 0 ∧ Came xs t (ptr xs t)) := by
  induction t with
  | leaf o n =>
    intro xs h w
    obtain ⟨w1, w2, w3, w4⟩ := w
    have F : Fits xs ⟨o, 0, 0, n⟩ := ⟨⟨fun e => absurd e (by dsimp only; omega), fun _ => rfl, fun _ => rfl⟩, fun e => absurd e (by dsimp only; omega), fun e => absurd e (by dsimp only; omega), fun e => by dsimp only at e; rw [e, kids7] at w2; exact absurd w2 (by decide)⟩
    rw [ptr]
    rcases put_fits h F (btw_iff.1 w1) ⟨w3, w4⟩ (fun e => by dsimp only at e; rw [e, kids6] at w2; exact absurd w2 (by decide)) with ⟨e, hl⟩ | ⟨c, p1, p2, p3, p4, p5, p6⟩
    · exact .inl ⟨e, by simp [Tr.enc]; omega⟩
    · refine .inr ⟨c, p1, p2, p3, p4, ?_, by simp [Tr.enc]; omega⟩
      rw [p5]; unfold denT mkTr; dsimp only; rw [w2]; simp
  | one o x ih =>
    intro xs h w
    obtain ⟨w1, w2, w3⟩ := w
    rw [ptr]
    rcases ih xs h w3 with ⟨e, hl⟩ | ⟨c, C⟩
    · exact .inl ⟨by rw [e]; rfl, by simp [Tr.enc]; omega⟩
    · try dsimp only
      rw [if_pos c]
      obtain ⟨f1, f2⟩ := C.fresh w2
      generalize ptr xs x = A at *
      have F : Fits A.l ⟨o, A.k, 0, 0⟩ := ⟨⟨fun _ => rfl, fun e => absurd e (by dsimp only; omega), fun _ => rfl⟩, fun _ => ⟨C.k0, C.k1⟩, fun e => absurd e (by dsimp only; omega), fun e => by dsimp only at e; rw [e, kids7] at w1; exact absurd w1 (by decide)⟩
      obtain ⟨ys, hy⟩ := C.pre
      have L := C.len
      rcases put_fits C.right F (btw_iff.1 (wf_btw (by dsimp only; omega))) ⟨Int.le_refl 0, show (0 : Int) ≤ 9999 by decide⟩ (fun _ => f1) with ⟨e, hl⟩ | ⟨c, p1, ⟨zs, p2⟩, p3, p4, p5, p6⟩
      · exact .inl ⟨e, by simp [Tr.enc]; omega⟩
      · refine .inr ⟨c, p1, ⟨ys ++ zs, by rw [p2, hy, List.append_assoc]⟩, p3, p4, ?_, by simp [Tr.enc]; omega⟩
        rw [p5]; unfold denT mkTr; dsimp only; rw [w1, C.den]; simp
  | two o x y ih1 ih2 =>
    intro xs h w
    obtain ⟨w1, w2, w3, w4⟩ := w
    rw [ptr]
    rcases ih1 xs h w3 with ⟨e, hl⟩ | ⟨c, C⟩
    · exact .inl ⟨by rw [e]; rfl, by simp [Tr.enc]; omega⟩
    · try dsimp only
      rw [if_pos c]
      have L := C.len
      have CF := @Came.fresh _ _ _ C
      obtain ⟨ys, hy⟩ := C.pre
      generalize ptr xs x = A at *
      rcases ih2 A.l C.right w4 with ⟨e, hl⟩ | ⟨c2, D⟩
      · exact .inl ⟨by rw [e]; rfl, by simp [Tr.enc]; omega⟩
      · rw [if_pos c2]
        have L2 := D.len
        have DF := @Came.fresh _ _ _ D
        obtain ⟨zs, hz⟩ := D.pre
        generalize ptr A.l y = B at *
        have k0 := C.k0
        have k1 := C.k1
        have hd : den B.l A.k.toNat = x := by rw [hz, den_app _ _ _ (by omega)]; exact C.den
        have ht : tmAt B.l A.k = tmAt A.l A.k := by rw [hz, tmAt_app _ _ _ k0 k1]
        have hk : A.k < B.l.length := by rw [hz]; simp; omega
        by_cases h7 : o = 7
        · subst h7
          obtain ⟨r1, r2, r3⟩ := w2 rfl
          obtain ⟨f1, f2⟩ := CF r1
          obtain ⟨g1, g2⟩ := DF r2
          rw [← ht] at f1 f2
          rw [if_pos rfl]
          unfold bothT
          have q0 := D.k0
          have q1 := D.k1
          have k7 := kids7
          have hmin : (min A.k B.k = A.k ∧ max A.k B.k = B.k) ∨ (min A.k B.k = B.k ∧ max A.k B.k = A.k) := by omega
          have F : Fits B.l ⟨7, min A.k B.k, max A.k B.k, 0⟩ := by
            refine ⟨⟨fun _ => rfl, fun e => absurd e (by dsimp only; omega), fun e => absurd e (by dsimp only; omega)⟩, fun _ => by dsimp only; omega, fun _ => by dsimp only; omega, fun _ => ?_⟩
            dsimp only
            rcases hmin with ⟨e1, e2⟩ | ⟨e1, e2⟩ <;> rw [e1, e2]
            · exact ⟨f1, g1, by omega⟩
            · exact ⟨g1, f1, by omega⟩
          rcases put_fits D.right F ⟨by dsimp only; omega, by dsimp only; omega⟩ ⟨Int.le_refl 0, show (0 : Int) ≤ 9999 by decide⟩ (fun e => absurd e (by dsimp only; omega)) with ⟨e, hl⟩ | ⟨c, p1, ⟨us, p2⟩, p3, p4, p5, p6⟩
          · exact .inl ⟨e, by simp [Tr.enc]; omega⟩
          · refine .inr ⟨c, p1, ⟨ys ++ zs ++ us, by rw [p2, hz, hy]; simp⟩, p3, p4, ?_, by simp [Tr.enc]; omega⟩
            rw [p5]; unfold denT mkTr; dsimp only
            rw [k7, if_pos rfl]
            have dB := D.den
            rcases hmin with ⟨e1, e2⟩ | ⟨e1, e2⟩ <;> rw [e1, e2, hd, dB]
            · rw [if_neg (fun hc => by omega)]
            · by_cases hlt : x.num < y.num
              · rw [if_pos ⟨rfl, hlt⟩]
              · rw [if_neg (fun hc => hlt hc.2)]
                have e : x = y := by
                  rw [(Tr.wf_fresh w3 r1).1, (Tr.wf_fresh w4 r2).1, show x.num = y.num by omega]
                rw [e]
        · rw [if_neg h7]
          have F : Fits B.l ⟨o, A.k, B.k, 0⟩ := ⟨⟨fun _ => rfl, fun e => absurd e (by dsimp only; omega), fun e => absurd e (by dsimp only; omega)⟩, fun _ => ⟨k0, hk⟩, fun _ => ⟨D.k0, D.k1⟩, fun e => absurd e h7⟩
          have k6 := kids6
          rcases put_fits D.right F (btw_iff.1 (wf_btw (by dsimp only; omega))) ⟨Int.le_refl 0, show (0 : Int) ≤ 9999 by decide⟩ (fun e => by dsimp only at e; subst e; omega) with ⟨e, hl⟩ | ⟨c, p1, ⟨us, p2⟩, p3, p4, p5, p6⟩
          · exact .inl ⟨e, by simp [Tr.enc]; omega⟩
          · refine .inr ⟨c, p1, ⟨ys ++ zs ++ us, by rw [p2, hz, hy]; simp⟩, p3, p4, ?_, by simp [Tr.enc]; omega⟩
            rw [p5]; unfold denT mkTr; dsimp only
            rw [w1, hd, D.den]; simp [h7]


end Go.Proofs.YthjaehcfakjemaaDoor
