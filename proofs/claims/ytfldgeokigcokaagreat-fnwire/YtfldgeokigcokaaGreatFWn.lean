/- Put together: WrA, WrC, RkA, RkB. -/
import Derived.Test.YtfldgeokigcokaaGreatFWo
import Derived.Test.YtfldgeokigcokaaGreatFWq
import Derived.Test.YtfldgeokigcokaaGreatPut
import Derived.Test.YtfldgeokigcokaaGreatFWm
import Derived.Test.YtfldgeokigcokaaGreatFWt

/- Terms as bytes: how deep, the bytes, read back, put with their parts (math). -/
namespace Go.Proofs.YtfldgeokigcokaaGreat
open Go.RowKit

/-- How deep a term is. -/
def Tr.dp : Tr → Int
  | .leaf _ _ => 1
  | .one _ x => x.dp + 1
  | .two _ x y => max x.dp y.dp + 1

theorem Tr.dp_pos (t : Tr) : 1 ≤ t.dp := by
  induction t with
  | leaf _ _ => unfold Tr.dp; omega
  | one _ x ih => unfold Tr.dp; omega
  | two _ x y ih1 ih2 => unfold Tr.dp; omega

theorem mkTr_dp (t : T4) (x y : Tr) : (mkTr t x y).dp = (if 1 < kids t.o then max x.dp y.dp else if 0 < kids t.o then x.dp else 0) + 1 := by
  unfold mkTr
  rcases kids_cases t.o with h | h | h
  · rw [h]; simp [Tr.dp]
  · rw [h]; simp [Tr.dp]
  · rw [h]
    simp only [show (1 : Int) < 2 by decide, if_true]
    split
    · simp only [Tr.dp]; omega
    · simp only [Tr.dp]

/-- The depths of the first 'k'. -/
def dpL (xs : List T4) (k : Nat) : List Int := (List.range k).map fun i => (den xs i).dp

theorem dpL_len (xs : List T4) (k : Nat) : (dpL xs k).length = k := by simp [dpL]

theorem dpL_at (xs : List T4) (k i : Nat) (h : i < k) : (dpL xs k).getD i 0 = (den xs i).dp := by simp [dpL, List.getD, h]

theorem dpL_next (xs : List T4) (k : Nat) : dpL xs (k + 1) = dpL xs k ++ [(den xs k).dp] := by simp [dpL, List.range_succ]

theorem dp_step {xs : List T4} (k : Nat) (hk : k < xs.length) (h : Ahead xs) {x : T4} (hx : xs.getD k zTerm = x) :
    (den xs k).dp = (if 1 < kids x.o then max (den xs x.a.toNat).dp (den xs x.b.toNat).dp else if 0 < kids x.o then (den xs x.a.toNat).dp else 0) + 1 := by
  rw [den_at k hk h, hx, mkTr_dp]

theorem dp_le {xs : List T4} (h : Ahead xs) : ∀ m k, k ≤ m → k < xs.length → (den xs k).dp ≤ (k : Int) + 1 := by
  intro m
  induction m with
  | zero =>
    intro k hm hk
    obtain ⟨h1, h2⟩ := h k hk
    rw [dp_step k hk h rfl]
    generalize xs.getD k zTerm = t at *
    rcases kids_cases t.o with e | e | e <;> rw [e] at h1 h2 ⊢
    · simp; omega
    · have := h1 (by decide); omega
    · have := h1 (by decide); omega
  | succ m ih =>
    intro k hm hk
    obtain ⟨h1, h2⟩ := h k hk
    rw [dp_step k hk h rfl]
    generalize xs.getD k zTerm = t at *
    rcases kids_cases t.o with e | e | e <;> rw [e] at h1 h2 ⊢
    · simp; omega
    · have a1 := h1 (by decide)
      have := ih t.a.toNat (by omega) (by omega)
      simp only [show ¬ (1 : Int) < 1 by decide, show (0 : Int) < 1 by decide, if_true, if_false]; omega
    · have a1 := h1 (by decide)
      have a2 := h2 (by decide)
      have := ih t.a.toNat (by omega) (by omega)
      have := ih t.b.toNat (by omega) (by omega)
      simp only [show (1 : Int) < 2 by decide, if_true]; omega

theorem dp_in {xs : List T4} (h : tfC xs = 0) (k : Nat) (hk : k < xs.length) : 1 ≤ (den xs k).dp ∧ (den xs k).dp ≤ 400 := by
  have h1 := dp_le (tfC_ahead h) k k (Nat.le_refl _) hk
  have h2 := (tfC_zero h).1
  exact ⟨Tr.dp_pos _, by omega⟩

/-- What DepthOf answers beside its code. -/
@[irreducible] def dpV (xs : List T4) (q : Int) : Int := if akC xs q = 0 then (den xs q.toNat).dp else 0

theorem dpV_ways (xs : List T4) (q : Int) : (akC xs q ≠ 0 ∧ dpV xs q = 0) ∨ (akC xs q = 0 ∧ dpV xs q = (den xs q.toNat).dp) := by
  unfold dpV
  by_cases h : akC xs q = 0
  · exact .inr ⟨h, by rw [if_pos h]⟩
  · exact .inl ⟨h, by rw [if_neg h]⟩

/-- A term as bytes. -/
def Tr.enc : Tr → List Int
  | .leaf o n => [o, n / 256 % 256, n % 256]
  | .one o x => o :: x.enc
  | .two o x y => o :: (x.enc ++ y.enc)

/-- A term that bytes may be of. -/
def Tr.wf : Tr → Prop
  | .leaf o n => btw o 1 7 = true ∧ kids o = 0 ∧ 0 ≤ n ∧ n ≤ 9999
  | .one o x => kids o = 1 ∧ x.op = 2 ∧ x.wf
  | .two o x y => kids o = 2 ∧ (o = 7 → x.op = 2 ∧ y.op = 2 ∧ x.num ≤ y.num) ∧ x.wf ∧ y.wf

theorem wf_btw {o : Int} (h : 0 < kids o) : btw o 1 7 = true := by
  rw [btw_iff]
  rcases kids_ways o with ⟨e, _⟩ | ⟨e, _⟩ | ⟨e, _⟩ | ⟨e, _⟩ | ⟨e, _⟩ | ⟨_, _, _, _, _, e⟩ <;> omega

theorem Tr.wf_fresh {t : Tr} (h : t.wf) (h2 : t.op = 2) : t = .leaf 2 t.num ∧ 0 ≤ t.num ∧ t.num ≤ 9999 := by
  have k2 := kids2
  cases t with
  | leaf o n => simp only [Tr.op] at h2; subst h2; exact ⟨rfl, h.2.2⟩
  | one o x => simp only [Tr.op] at h2; subst h2; have := h.1; omega
  | two o x y => simp only [Tr.op] at h2; subst h2; have := h.1; omega

theorem kids_one {o : Int} (h : kids o = 1) : o = 6 := by
  rcases kids_ways o with ⟨_, e⟩ | ⟨_, e⟩ | ⟨_, e⟩ | ⟨_, e⟩ | ⟨e, _⟩ | ⟨_, _, _, _, _, e⟩ <;> omega

/-- What stands in a right table may be of bytes. -/
theorem den_wf {xs : List T4} (h : tfC xs = 0) : ∀ m k, k ≤ m → k < xs.length → (den xs k).wf := by
  have HA := tfC_ahead h
  have N := tfC_nice h
  intro m
  induction m with
  | zero =>
    intro k hm hk
    obtain ⟨h1, h2⟩ := HA k hk
    have z := tm_zero ((tfC_zero h).2 k hk).1
    rw [den_at k hk HA]
    generalize xs.getD k zTerm = t at *
    unfold mkTr
    rcases kids_cases t.o with e | e | e <;> rw [e] at h1 h2 ⊢
    · simp only [show ¬ (0 : Int) = 2 by decide, show ¬ (0 : Int) = 1 by decide, if_false]
      exact ⟨btw_iff.2 z.1, e, z.2.1⟩
    · have := h1 (by decide); omega
    · have := h1 (by decide); omega
  | succ m ih =>
    intro k hm hk
    obtain ⟨h1, h2⟩ := HA k hk
    have z := tm_zero ((tfC_zero h).2 k hk).1
    have R := N.rise k hk
    have S : (xs.getD k zTerm).o = 6 → (tmAt xs (xs.getD k zTerm).a).o = 2 := fun e => by
      have k6 := kids6
      have a1 := h1 (by rw [e, k6]; decide)
      have := (tmSec_false (z.2.2.2.2.2.2 (ofSec_iff.2 (.inl e)))).1
      rw [tmAt_take _ _ _ a1.1 a1.2] at this
      exact this
    have fr : ∀ i : Int, 0 ≤ i → i < k → (tmAt xs i).o = 2 → (den xs i.toNat).op = 2 := fun i h0 hi e => by
      rw [den_op _ (by omega) HA]; exact e
    rw [den_at k hk HA]
    generalize xs.getD k zTerm = t at *
    unfold mkTr
    rcases kids_cases t.o with e | e | e <;> rw [e] at h1 h2 ⊢
    · simp only [show ¬ (0 : Int) = 2 by decide, show ¬ (0 : Int) = 1 by decide, if_false]
      exact ⟨btw_iff.2 z.1, e, z.2.1⟩
    · simp only [show ¬ (1 : Int) = 2 by decide, if_false, if_true]
      have a1 := h1 (by decide)
      exact ⟨e, fr _ a1.1 a1.2 (S (kids_one e)), ih _ (by omega) (by omega)⟩
    · simp only [if_true]
      have a1 := h1 (by decide)
      have a2 := h2 (by decide)
      have w1 := ih t.a.toNat (by omega) (by omega)
      have w2 := ih t.b.toNat (by omega) (by omega)
      split
      · rename_i hs
        obtain ⟨r1, r2, _⟩ := R hs.1
        exact ⟨e, fun _ => ⟨fr _ a2.1 a2.2 r2, fr _ a1.1 a1.2 r1, by omega⟩, w2, w1⟩
      · rename_i hs
        refine ⟨e, fun h7 => ?_, w1, w2⟩
        obtain ⟨r1, r2, _⟩ := R h7
        exact ⟨fr _ a1.1 a1.2 r1, fr _ a2.1 a2.2 r2, by omega⟩

theorem Tr.enc_len (t : Tr) (h : t.sz < 1000000) : (t.enc.length : Int) ≤ 3 * t.sz := by
  induction t with
  | leaf _ _ => simp [Tr.enc, Tr.sz]
  | one _ x ih => simp only [Tr.sz] at h ⊢; have := ih (by omega); simp only [Tr.enc, List.length_cons]; omega
  | two _ x y ih1 ih2 =>
    simp only [Tr.sz] at h ⊢
    have p := x.sz_in
    have q := y.sz_in
    have := ih1 (by omega)
    have := ih2 (by omega)
    simp only [Tr.enc, List.length_cons, List.length_append]; omega

theorem Tr.dp_enc (t : Tr) : t.dp ≤ t.enc.length := by
  induction t with
  | leaf _ _ => simp [Tr.enc, Tr.dp]
  | one _ x ih => simp only [Tr.enc, Tr.dp, List.length_cons]; omega
  | two _ x y ih1 ih2 => simp only [Tr.enc, Tr.dp, List.length_cons, List.length_append]; omega

theorem enc_byte {t : Tr} (h : t.wf) : ∀ x ∈ t.enc, 0 ≤ x ∧ x < 256 := by
  induction t with
  | leaf o n =>
    intro x hx
    have h1 := btw_iff.1 h.1
    simp only [Tr.enc, List.mem_cons, List.not_mem_nil, or_false] at hx
    rcases hx with rfl | rfl | rfl <;> omega
  | one o x ih =>
    intro z hz
    have h1 := btw_iff.1 (wf_btw (o := o) (by have := h.1; omega))
    simp only [Tr.enc, List.mem_cons] at hz
    rcases hz with rfl | hz
    · omega
    · exact ih h.2.2 z hz
  | two o x y ih1 ih2 =>
    intro z hz
    have h1 := btw_iff.1 (wf_btw (o := o) (by have := h.1; omega))
    simp only [Tr.enc, List.mem_cons, List.mem_append] at hz
    rcases hz with rfl | hz | hz
    · omega
    · exact ih1 h.2.2.1 z hz
    · exact ih2 h.2.2.2 z hz

/-- The term that begins at a place of bytes, and where it ends; not deeper than told. -/
def prs : Nat → List Int → Nat → Option (Tr × Nat)
  | 0, _, _ => none
  | f + 1, ds, k =>
    if k < ds.length ∧ btw (ds.getD k 0) 1 7 = true then
      if kids (ds.getD k 0) = 0 then
        (if k + 3 ≤ ds.length ∧ ds.getD (k + 1) 0 * 256 + ds.getD (k + 2) 0 ≤ 9999 then some (.leaf (ds.getD k 0) (ds.getD (k + 1) 0 * 256 + ds.getD (k + 2) 0), k + 3) else none)
      else
        match prs f ds (k + 1) with
        | none => none
        | some (x, e) =>
          if kids (ds.getD k 0) = 1 then (if x.op = 2 then some (.one (ds.getD k 0) x, e) else none)
          else match prs f ds e with
            | none => none
            | some (y, e2) => if ds.getD k 0 = 7 ∧ ¬ (x.op = 2 ∧ y.op = 2 ∧ x.num ≤ y.num) then none else some (.two (ds.getD k 0) x y, e2)
    else none

theorem getD_drop (ds : List Int) (k i : Nat) : (ds.drop k).getD i 0 = ds.getD (k + i) 0 := by simp [List.getD, List.getElem?_drop]

theorem drop_get (ds : List Int) (k : Nat) (h : k < ds.length) : ds.drop k = ds.getD k 0 :: ds.drop (k + 1) := by
  rw [List.drop_eq_getElem_cons h]; simp [List.getD, h]

/-- The bytes of a term that is read are there. -/
theorem prs_enc : ∀ (f : Nat) (ds : List Int) (k : Nat) (t : Tr) (e : Nat), (∀ x ∈ ds, 0 ≤ x ∧ x < 256) → prs f ds k = some (t, e) → t.wf ∧ t.dp ≤ f ∧ e = k + t.enc.length ∧ e ≤ ds.length ∧ ds.drop k = t.enc ++ ds.drop e := by
  intro f
  induction f with
  | zero => intro ds k t e _ h; simp [prs] at h
  | succ f ih =>
    intro ds k t e hb h
    have byte : ∀ i, 0 ≤ ds.getD i 0 ∧ ds.getD i 0 < 256 := fun i => by
      by_cases hi : i < ds.length
      · have : ds.getD i 0 ∈ ds := by simp [List.getD, hi]
        exact hb _ this
      · simp [List.getD, List.getElem?_eq_none (Nat.le_of_not_lt hi)]
    rw [prs] at h
    split at h
    · rename_i hk
      split at h
      · rename_i h0
        split at h
        · rename_i h1
          simp only [Option.some.injEq, Prod.mk.injEq] at h
          obtain ⟨rfl, rfl⟩ := h
          have b1 := byte (k + 1)
          have b2 := byte (k + 2)
          refine ⟨⟨hk.2, h0, by omega, h1.2⟩, by simp [Tr.dp]; omega, by simp [Tr.enc], h1.1, ?_⟩
          rw [drop_get ds k hk.1, drop_get ds (k + 1) (by omega), drop_get ds (k + 2) (by omega)]
          simp only [Tr.enc, List.cons_append, List.nil_append, List.cons.injEq, true_and]
          exact ⟨by omega, by omega, trivial⟩
        · cases h
      · rename_i h0
        split at h
        · cases h
        · rename_i x e1 hx
          obtain ⟨w1, d1, e1', l1, r1⟩ := ih ds (k + 1) x e1 hb hx
          split at h
          · rename_i h2
            split at h
            · rename_i h3
              simp only [Option.some.injEq, Prod.mk.injEq] at h
              obtain ⟨rfl, rfl⟩ := h
              refine ⟨⟨h2, h3, w1⟩, by simp only [Tr.dp]; omega, by simp only [Tr.enc, List.length_cons]; omega, l1, ?_⟩
              rw [drop_get ds k hk.1, r1]; rfl
            · cases h
          · rename_i h2
            split at h
            · cases h
            · rename_i y e2 hy
              obtain ⟨w2, d2, e2', l2, r2⟩ := ih ds e1 y e2 hb hy
              split at h
              · cases h
              · rename_i h3
                simp only [Option.some.injEq, Prod.mk.injEq] at h
                obtain ⟨rfl, rfl⟩ := h
                have hk2 : kids (ds.getD k 0) = 2 := by rcases kids_cases (ds.getD k 0) with e | e | e <;> first | exact e | exact absurd e h0 | exact absurd e h2
                refine ⟨⟨hk2, fun h7 => ?_, w1, w2⟩, by simp only [Tr.dp]; omega, by simp only [Tr.enc, List.length_cons, List.length_append]; omega, l2, ?_⟩
                · by_cases hc : x.op = 2 ∧ y.op = 2 ∧ x.num ≤ y.num
                  · exact hc
                  · exact absurd ⟨h7, hc⟩ h3
                · rw [drop_get ds k hk.1, r1, r2]; simp [Tr.enc]
    · cases h

/-- A term is read from its bytes. -/
theorem enc_prs (t : Tr) : ∀ (f : Nat) (ds : List Int) (k : Nat) (rest : List Int), t.wf → t.dp ≤ f → ds.drop k = t.enc ++ rest → prs f ds k = some (t, k + t.enc.length) := by
  have step : ∀ (ds : List Int) (k : Nat) (o : Int) (zs : List Int), ds.drop k = o :: zs → k < ds.length ∧ ds.getD k 0 = o ∧ ds.drop (k + 1) = zs := by
    intro ds k o zs h
    have hk : k < ds.length := by
      rcases Nat.lt_or_ge k ds.length with h1 | h1
      · exact h1
      · rw [List.drop_of_length_le h1] at h; cases h
    rw [drop_get ds k hk] at h
    simp only [List.cons.injEq] at h
    exact ⟨hk, h.1, h.2⟩
  have cut : ∀ (ds : List Int) (k : Nat) (ys zs : List Int), ds.drop k = ys ++ zs → ds.drop (k + ys.length) = zs := by
    intro ds k ys zs h
    rw [← List.drop_drop, h, List.drop_left]
  induction t with
  | leaf o n =>
    intro f ds k rest w d h
    obtain ⟨f, rfl⟩ : ∃ g, f = g + 1 := ⟨f - 1, by simp only [Tr.dp] at d; omega⟩
    obtain ⟨w1, w2, w3, w4⟩ := w
    simp only [Tr.enc, List.cons_append, List.nil_append] at h
    obtain ⟨a1, a2, a3⟩ := step _ _ _ _ h
    obtain ⟨b1, b2, b3⟩ := step _ _ _ _ a3
    obtain ⟨c1, c2, c3⟩ := step _ _ _ _ b3
    have hn : n / 256 % 256 * 256 + n % 256 = n := by omega
    rw [prs, if_pos ⟨a1, by rw [a2]; exact w1⟩, if_pos (by rw [a2]; exact w2), a2, b2, c2, hn, if_pos ⟨by omega, w4⟩]
    simp [Tr.enc]
  | one o x ih =>
    intro f ds k rest w d h
    obtain ⟨f, rfl⟩ : ∃ g, f = g + 1 := ⟨f - 1, by simp only [Tr.dp] at d; have := x.dp_pos; omega⟩
    obtain ⟨w1, w2, w3⟩ := w
    simp only [Tr.enc, List.cons_append] at h
    simp only [Tr.dp] at d
    obtain ⟨a1, a2, a3⟩ := step _ _ _ _ h
    have hx := ih f ds (k + 1) rest w3 (by omega) a3
    rw [prs, if_pos ⟨a1, by rw [a2]; exact wf_btw (by omega)⟩, a2, if_neg (by omega), hx]
    simp only
    rw [if_pos w1, if_pos w2]
    simp [Tr.enc]; omega
  | two o x y ih1 ih2 =>
    intro f ds k rest w d h
    obtain ⟨f, rfl⟩ : ∃ g, f = g + 1 := ⟨f - 1, by simp only [Tr.dp] at d; have := x.dp_pos; omega⟩
    obtain ⟨w1, w2, w3, w4⟩ := w
    simp only [Tr.enc, List.cons_append, List.append_assoc] at h
    simp only [Tr.dp] at d
    obtain ⟨a1, a2, a3⟩ := step _ _ _ _ h
    have hx := ih1 f ds (k + 1) _ w3 (by omega) a3
    have hy := ih2 f ds (k + 1 + x.enc.length) rest w4 (by omega) (cut _ _ _ _ a3)
    rw [prs, if_pos ⟨a1, by rw [a2]; exact wf_btw (by omega)⟩, a2, if_neg (by omega), hx]
    simp only
    rw [if_neg (by omega), hy]
    simp only
    rw [if_neg (fun hc => hc.2 (w2 hc.1))]
    simp [Tr.enc]; omega

/-- The term that bytes are of. -/
def whole (ds : List Int) : Option Tr :=
  match prs 30 ds 0 with
  | none => none
  | some (t, e) => if e = ds.length ∧ t.sz ≤ 200 then some t else none

theorem whole_iff {ds : List Int} (hb : ∀ x ∈ ds, 0 ≤ x ∧ x < 256) (t : Tr) : whole ds = some t ↔ t.wf ∧ t.dp ≤ 30 ∧ t.sz ≤ 200 ∧ ds = t.enc := by
  unfold whole
  constructor
  · intro h
    split at h
    · cases h
    · rename_i t' e hp
      obtain ⟨w, d, h1, h2, h3⟩ := prs_enc _ _ _ _ _ hb hp
      split at h
      · rename_i hc
        simp only [Option.some.injEq] at h
        subst h
        refine ⟨w, by simpa using d, hc.2, ?_⟩
        rw [hc.1, List.drop_length, List.append_nil, List.drop_zero] at h3
        exact h3
      · cases h
  · rintro ⟨w, d, s, rfl⟩
    have := enc_prs t 30 t.enc 0 [] w (by simpa using d) (by simp)
    rw [this]
    simp [s]

/-- A term put into a table, its parts ahead. -/
def ptr : List T4 → Tr → Put
  | xs, .leaf o n => put xs ⟨o, 0, 0, n⟩
  | xs, .one o x => let A := ptr xs x; if A.c = 0 then put A.l ⟨o, A.k, 0, 0⟩ else A
  | xs, .two o x y =>
    let A := ptr xs x
    if A.c = 0 then
      let B := ptr A.l y
      if B.c = 0 then put B.l (if o = 7 then bothT A.k B.k else ⟨o, A.k, B.k, 0⟩) else B
    else A

/-- A term of right numbers that fits is put, unless the table is full. -/
theorem put_fits {xs : List T4} {t : T4} (h : tfC xs = 0) (F : Fits xs t) (ho : 1 ≤ t.o ∧ t.o ≤ 7) (hn : 0 ≤ t.n ∧ t.n ≤ 9999) (h6 : t.o = 6 → (tmAt xs t.a).o = 2) :
    (put xs t = ⟨2, 0, []⟩ ∧ 400 ≤ xs.length) ∨ ((put xs t).c = 0 ∧ tfC (put xs t).l = 0 ∧ (∃ ys, (put xs t).l = xs ++ ys) ∧ 0 ≤ (put xs t).k ∧ (put xs t).k < (put xs t).l.length ∧ den (put xs t).l (put xs t).k.toNat = denT xs t ∧ (put xs t).l.length ≤ xs.length + 1) := by
  have hz := fits_zero F ho hn h6
  have N := tfC_nice h
  have key : (put xs t).c = 0 → den (put xs t).l (put xs t).k.toNat = denT xs t := by
    intro hc
    rcases put_ways xs t with ⟨h1, _⟩ | ⟨_, h2, e⟩ | ⟨_, _, _, e⟩ | ⟨_, h2, h3, e⟩
    · exact absurd hz h1
    · rw [e]
      have hl := tmIdx_lt h2
      have ha := tmIdx_at h2
      simp only [Int.toNat_natCast]
      rw [den_at _ hl N.ahead, ha]; rfl
    · rw [e] at hc; simp at hc
    · rw [e]; exact den_snoc N F
  rcases put_ways xs t with ⟨h1, _⟩ | ⟨_, h2, e⟩ | ⟨_, _, h3, e⟩ | ⟨_, h2, h3, e⟩
  · exact absurd hz h1
  · have hc : (put xs t).c = 0 := by rw [e]
    obtain ⟨p1, p2, p3, p4, _⟩ := put_right h hc
    exact .inr ⟨hc, p1, p2, p3, p4, key hc, by rw [e]; simp⟩
  · exact .inl ⟨e, h3⟩
  · have hc : (put xs t).c = 0 := by rw [e]
    obtain ⟨p1, p2, p3, p4, _⟩ := put_right h hc
    exact .inr ⟨hc, p1, p2, p3, p4, key hc, by rw [e]; simp⟩

/-- What comes of a term put with its parts. -/
structure Came (xs : List T4) (t : Tr) (P : Put) : Prop where
  right : tfC P.l = 0
  pre : ∃ ys, P.l = xs ++ ys
  k0 : 0 ≤ P.k
  k1 : P.k < P.l.length
  den : den P.l P.k.toNat = t
  len : (P.l.length : Int) ≤ xs.length + t.enc.length

theorem Came.fresh {xs : List T4} {t : Tr} {P : Put} (C : Came xs t P) (h : t.op = 2) : (tmAt P.l P.k).o = 2 ∧ (tmAt P.l P.k).n = t.num := by
  have hA := tfC_ahead C.right
  have hk : P.k.toNat < P.l.length := by have := C.k0; have := C.k1; omega
  have h1 := den_op _ hk hA
  rw [C.den, h] at h1
  have h2 := den_fresh _ hk hA h1.symm
  rw [C.den] at h2
  unfold tmAt
  exact ⟨h1.symm, by rw [h2]; rfl⟩

theorem ptr_ways (t : Tr) : ∀ (xs : List T4), tfC xs = 0 → t.wf → (ptr xs t = ⟨2, 0, []⟩ ∧ 400 < (xs.length : Int) + t.enc.length) ∨ ((ptr xs t).c = 0 ∧ Came xs t (ptr xs t)) := by
  induction t with
  | leaf o n =>
    intro xs h w
    obtain ⟨w1, w2, w3, w4⟩ := w
    have F : Fits xs ⟨o, 0, 0, n⟩ := ⟨⟨fun e => absurd e (by dsimp only; omega), fun _ => rfl, fun _ => rfl⟩, fun e => absurd e (by dsimp only; omega), fun e => absurd e (by dsimp only; omega), fun e => by dsimp only at e; rw [e, kids7] at w2; exact absurd w2 (by decide)⟩
    rw [ptr]
    rcases put_fits h F (btw_iff.1 w1) ⟨w3, w4⟩ (fun e => by dsimp only at e; rw [e, kids6] at w2; exact absurd w2 (by decide)) with ⟨e, hl⟩ | ⟨c, p1, p2, p3, p4, p5, p6⟩
    · exact .inl ⟨e, by simp [Tr.enc]; omega⟩
    · refine .inr ⟨c, p1, p2, p3, p4, ?_, by simp [Tr.enc]; omega⟩
      rw [p5]; unfold denT mkTr; dsimp only; rw [w2]; simp
  | one o x ih =>
    intro xs h w
    obtain ⟨w1, w2, w3⟩ := w
    rw [ptr]
    rcases ih xs h w3 with ⟨e, hl⟩ | ⟨c, C⟩
    · exact .inl ⟨by rw [e]; rfl, by simp [Tr.enc]; omega⟩
    · try dsimp only
      rw [if_pos c]
      obtain ⟨f1, f2⟩ := C.fresh w2
      generalize ptr xs x = A at *
      have F : Fits A.l ⟨o, A.k, 0, 0⟩ := ⟨⟨fun _ => rfl, fun e => absurd e (by dsimp only; omega), fun _ => rfl⟩, fun _ => ⟨C.k0, C.k1⟩, fun e => absurd e (by dsimp only; omega), fun e => by dsimp only at e; rw [e, kids7] at w1; exact absurd w1 (by decide)⟩
      obtain ⟨ys, hy⟩ := C.pre
      have L := C.len
      rcases put_fits C.right F (btw_iff.1 (wf_btw (by dsimp only; omega))) ⟨Int.le_refl 0, show (0 : Int) ≤ 9999 by decide⟩ (fun _ => f1) with ⟨e, hl⟩ | ⟨c, p1, ⟨zs, p2⟩, p3, p4, p5, p6⟩
      · exact .inl ⟨e, by simp [Tr.enc]; omega⟩
      · refine .inr ⟨c, p1, ⟨ys ++ zs, by rw [p2, hy, List.append_assoc]⟩, p3, p4, ?_, by simp [Tr.enc]; omega⟩
        rw [p5]; unfold denT mkTr; dsimp only; rw [w1, C.den]; simp
  | two o x y ih1 ih2 =>
    intro xs h w
    obtain ⟨w1, w2, w3, w4⟩ := w
    rw [ptr]
    rcases ih1 xs h w3 with ⟨e, hl⟩ | ⟨c, C⟩
    · exact .inl ⟨by rw [e]; rfl, by simp [Tr.enc]; omega⟩
    · try dsimp only
      rw [if_pos c]
      have L := C.len
      have CF := @Came.fresh _ _ _ C
      obtain ⟨ys, hy⟩ := C.pre
      generalize ptr xs x = A at *
      rcases ih2 A.l C.right w4 with ⟨e, hl⟩ | ⟨c2, D⟩
      · exact .inl ⟨by rw [e]; rfl, by simp [Tr.enc]; omega⟩
      · rw [if_pos c2]
        have L2 := D.len
        have DF := @Came.fresh _ _ _ D
        obtain ⟨zs, hz⟩ := D.pre
        generalize ptr A.l y = B at *
        have k0 := C.k0
        have k1 := C.k1
        have hd : den B.l A.k.toNat = x := by rw [hz, den_app _ _ _ (by omega)]; exact C.den
        have ht : tmAt B.l A.k = tmAt A.l A.k := by rw [hz, tmAt_app _ _ _ k0 k1]
        have hk : A.k < B.l.length := by rw [hz]; simp; omega
        by_cases h7 : o = 7
        · subst h7
          obtain ⟨r1, r2, r3⟩ := w2 rfl
          obtain ⟨f1, f2⟩ := CF r1
          obtain ⟨g1, g2⟩ := DF r2
          rw [← ht] at f1 f2
          rw [if_pos rfl]
          unfold bothT
          have q0 := D.k0
          have q1 := D.k1
          have k7 := kids7
          have hmin : (min A.k B.k = A.k ∧ max A.k B.k = B.k) ∨ (min A.k B.k = B.k ∧ max A.k B.k = A.k) := by omega
          have F : Fits B.l ⟨7, min A.k B.k, max A.k B.k, 0⟩ := by
            refine ⟨⟨fun _ => rfl, fun e => absurd e (by dsimp only; omega), fun e => absurd e (by dsimp only; omega)⟩, fun _ => by dsimp only; omega, fun _ => by dsimp only; omega, fun _ => ?_⟩
            dsimp only
            rcases hmin with ⟨e1, e2⟩ | ⟨e1, e2⟩ <;> rw [e1, e2]
            · exact ⟨f1, g1, by omega⟩
            · exact ⟨g1, f1, by omega⟩
          rcases put_fits D.right F ⟨by dsimp only; omega, by dsimp only; omega⟩ ⟨Int.le_refl 0, show (0 : Int) ≤ 9999 by decide⟩ (fun e => absurd e (by dsimp only; omega)) with ⟨e, hl⟩ | ⟨c, p1, ⟨us, p2⟩, p3, p4, p5, p6⟩
          · exact .inl ⟨e, by simp [Tr.enc]; omega⟩
          · refine .inr ⟨c, p1, ⟨ys ++ zs ++ us, by rw [p2, hz, hy]; simp⟩, p3, p4, ?_, by simp [Tr.enc]; omega⟩
            rw [p5]; unfold denT mkTr; dsimp only
            rw [k7, if_pos rfl]
            have dB := D.den
            rcases hmin with ⟨e1, e2⟩ | ⟨e1, e2⟩ <;> rw [e1, e2, hd, dB]
            · rw [if_neg (fun hc => by omega)]
            · by_cases hlt : x.num < y.num
              · rw [if_pos ⟨rfl, hlt⟩]
              · rw [if_neg (fun hc => hlt hc.2)]
                have e : x = y := by
                  rw [(Tr.wf_fresh w3 r1).1, (Tr.wf_fresh w4 r2).1, show x.num = y.num by omega]
                rw [e]
        · rw [if_neg h7]
          have F : Fits B.l ⟨o, A.k, B.k, 0⟩ := ⟨⟨fun _ => rfl, fun e => absurd e (by dsimp only; omega), fun e => absurd e (by dsimp only; omega)⟩, fun _ => ⟨k0, hk⟩, fun _ => ⟨D.k0, D.k1⟩, fun e => absurd e h7⟩
          have k6 := kids6
          rcases put_fits D.right F (btw_iff.1 (wf_btw (by dsimp only; omega))) ⟨Int.le_refl 0, show (0 : Int) ≤ 9999 by decide⟩ (fun e => by dsimp only at e; subst e; omega) with ⟨e, hl⟩ | ⟨c, p1, ⟨us, p2⟩, p3, p4, p5, p6⟩
          · exact .inl ⟨e, by simp [Tr.enc]; omega⟩
          · refine .inr ⟨c, p1, ⟨ys ++ zs ++ us, by rw [p2, hz, hy]; simp⟩, p3, p4, ?_, by simp [Tr.enc]; omega⟩
            rw [p5]; unfold denT mkTr; dsimp only
            rw [w1, hd, D.den]; simp [h7]

end Go.Proofs.YtfldgeokigcokaaGreat

/- Frames as bytes (math). -/
namespace Go.Proofs.YtfldgeokigcokaaGreat
open Go.RowKit

theorem putN_of2 (n : Int) : putN n 2 = [n / 256 % 256, n % 256] := by
  simp [putN, digitN, List.range_succ]
theorem putN_of4 (n : Int) : putN n 4 = [n / 16777216 % 256, n / 65536 % 256, n / 256 % 256, n % 256] := by
  simp [putN, digitN, List.range_succ]

/-- A frame's bytes. -/
@[irreducible] def frmP (kind a b n : Int) (body : List Int) : List Int := (((([32, kind] ++ putN a 4) ++ putN b 4) ++ putN n 4) ++ putN (body.length : Int) 2) ++ body

/-- The fault of a frame. -/
@[irreducible] def frmC (kind a b n : Int) (body : List Int) : Int :=
  if btw kind 1 9 = true ∧ btw a 0 4294967295 = true ∧ btw b 0 4294967295 = true ∧ btw n 0 4294967295 = true then (if body.length ≤ 300 then 0 else 2) else 3

@[irreducible] def frmB (kind a b n : Int) (body : List Int) : List Int := if frmC kind a b n body = 0 then frmP kind a b n body else []

/-- Bytes that are a frame. -/
@[irreducible] def fdB (ds : List Int) : Bool := btw (ds.length : Int) 16 316 && ((ds.getD 0 0 == 32) && (btw (ds.getD 1 0) 1 9 && (takeN ds 14 2 == (ds.length : Int) - 16)))

end Go.Proofs.YtfldgeokigcokaaGreat

/- reckonTerm with the size above; SizeOf of the program. -/
namespace Go.Proofs.YtfldgeokigcokaaGreat
open Go.RowKit

/-- The sum of numbers, and the greatest of them. -/
def smI : List Int → Int
  | [] => 0
  | z :: zs => z + smI zs

def mxI : List Int → Int
  | [] => 0
  | z :: zs => max z (mxI zs)

theorem rk_mem {l : List Int} {k : Nat} (h : k < l.length) : l.getD k 0 ∈ l := by simp [List.getD, h]

theorem smI_app (ys zs : List Int) : smI (ys ++ zs) = smI ys + smI zs := by
  induction ys with
  | nil => simp [smI]
  | cons y ys ih => simp only [List.cons_append, smI, ih]; omega

theorem mxI_pos (zs : List Int) : 0 ≤ mxI zs := by
  induction zs with
  | nil => simp [mxI]
  | cons z zs ih => simp only [mxI]; omega

theorem mxI_app (ys zs : List Int) : mxI (ys ++ zs) = max (mxI ys) (mxI zs) := by
  induction ys with
  | nil => simp only [List.nil_append, mxI]; have := mxI_pos zs; omega
  | cons y ys ih => simp only [List.cons_append, mxI, ih]; omega

theorem smI_next (zs : List Int) (k : Nat) (h : k < zs.length) {z : Int} (hz : zs.getD k 0 = z) : smI (zs.take (k + 1)) = smI (zs.take k) + z := by
  rw [take_snoc zs k h, smI_app, hz]; simp [smI]

theorem mxI_next (zs : List Int) (k : Nat) (h : k < zs.length) {z : Int} (hz : zs.getD k 0 = z) (h0 : 0 ≤ z) : mxI (zs.take (k + 1)) = max (mxI (zs.take k)) z := by
  rw [take_snoc zs k h, mxI_app, hz]; simp only [mxI]; omega

theorem smI_in (zs : List Int) (h : ∀ z ∈ zs, 0 ≤ z ∧ z ≤ 1000000) : 0 ≤ smI zs ∧ smI zs ≤ 1000000 * (zs.length : Int) := by
  induction zs with
  | nil => simp [smI]
  | cons z zs ih =>
    have h1 := h z (by simp)
    have h2 := ih (fun y hy => h y (by simp [hy]))
    simp only [smI, List.length_cons]; omega

theorem mxI_in (zs : List Int) (h : ∀ z ∈ zs, 0 ≤ z ∧ z ≤ 1000000) : 0 ≤ mxI zs ∧ mxI zs ≤ 1000000 := by
  induction zs with
  | nil => simp [mxI]
  | cons z zs ih =>
    have h1 := h z (by simp)
    have h2 := ih (fun y hy => h y (by simp [hy]))
    simp only [mxI]; omega

theorem psz_smI (xs : List T4) (zs : List Int) : psz xs zs = smI (zs.map fun z => (den xs z.toNat).sz) := by
  induction zs with
  | nil => simp [psz, smI]
  | cons z zs ih => simp only [psz, List.map_cons, smI, ih]

theorem sz_rk {xs : List T4} (k : Nat) (hk : k < xs.length) (h : Ahead xs) {x : T4} (hx : xs.getD k zTerm = x) : min 1000000 (1 + smI ((plc x).map fun z => (den xs z.toNat).sz)) = (den xs k).sz := by
  rw [sz_plc k hk h hx, psz_smI]

theorem dp_rk {xs : List T4} (k : Nat) (hk : k < xs.length) (h : Ahead xs) {x : T4} (hx : xs.getD k zTerm = x) : 1 + mxI ((plc x).map fun z => (den xs z.toNat).dp) = (den xs k).dp := by
  rw [dp_step k hk h hx]
  have a1 := (den xs x.a.toNat).dp_pos
  have a2 := (den xs x.b.toNat).dp_pos
  unfold plc
  rcases kids_cases x.o with e | e | e <;> rw [e]
  · simp [mxI]
  · simp [mxI]; omega
  · simp [mxI]; omega

set_option maxHeartbeats 1000000 in
theorem sizeAbove_ok (c : Option Addr) (l d : Nat) (zs : List Int) (w : World) (hR : Rd .i64 w c zs) (hl : zs.length = l) (h2 : l ≤ 2) (hb : ∀ z ∈ zs, 0 ≤ z ∧ z ≤ 1000000) :
    Calls Tryz.prog 56 #[.slice c l d] w fun e w' => e = .returned (.int .i64 (min 1000000 (1 + smI zs))) ∧ w' = w := by
  have HR := Hid.mk hR
  have HL := Hid.mk hl
  have HB := Hid.mk hb
  clear hR hl hb
  go_enter Tryz.func56, Tryz.ntmps56
  go_wp2
  go_loopw [3, 8] (fun s i wr => ∃ j : Nat, j ≤ l ∧ i = .int .i64 j ∧ s = .int .i64 (1 + smI (zs.take j)) ∧ wr = w) (fun _ i _ => l - (intOf i).toNat)
  case atStart => exact ⟨0, Nat.zero_le _, rfl, by simp [smI], rfl⟩
  case round =>
    obtain ⟨j, hj, rfl, rfl, hw⟩ := hrel
    subst hw
    have hin := smI_in (zs.take j) (fun z hz => HB.out z (List.mem_of_mem_take hz))
    have htl : (zs.take j).length ≤ 2 := by rw [List.length_take, HL.out]; omega
    by_cases hjl : j < l
    · obtain ⟨z, hz⟩ : ∃ z, zs.getD j 0 = z := ⟨_, rfl⟩
      have hj1 : (j : Int) < (l : Int) := by omega
      have hps := smI_next zs j (by rw [HL.out]; exact hjl) hz
      have hzb := HB.out z (by rw [← hz]; exact rk_mem (by rw [HL.out]; exact hjl))
      obtain ⟨S, hS⟩ : ∃ S, smI (zs.take j) = S := ⟨_, rfl⟩
      rw [hS] at hps hin ⊢
      rcases HR.out with h0 | ⟨b4, o4, rfl, hcz⟩
      · have := HL.out; rw [h0] at this; simp at this; omega
      have pz := hcz j (by rw [HL.out]; exact hjl)
      rw [hz] at pz
      have a1 : 1 + S + z ≤ 9223372036854775807 := by omega
      have a2 : -9223372036854775808 ≤ 1 + S + z := by omega
      have HPS := Hid.mk hps
      clear hcz hz hps hS hin htl
      go_wp2
      go_roundw
      case rel => exact ⟨j + 1, by omega, by go_num, by rw [HPS.out]; exact congrArg (Value.int IntKind.i64) (by omega), by trivial⟩
      case measure => simp [intOf]; omega
    · obtain rfl : j = l := by omega
      rw [List.take_of_length_le (by rw [HL.out]; exact Nat.le_refl _)] at hin htl ⊢
      obtain ⟨S, hS⟩ : ∃ S, smI zs = S := ⟨_, rfl⟩
      rw [hS] at hin ⊢
      have HS := Hid.mk hS
      clear hS
      by_cases hle : 1 + S ≤ 1000000
      · have hle2 : ¬ (1000000 < 1 + S) := by omega
        have e : 1 + S = min 1000000 (1 + S) := by omega
        have E := Hid.mk e
        clear e
        go_wp2
        go_ret
        exact ⟨ret_int (by rw [HS.out]; exact E.out), rfl⟩
      · have hle2 : 1000000 < 1 + S := by omega
        have e : 1000000 = min 1000000 (1 + S) := by omega
        have E := Hid.mk e
        clear e
        go_wp2
        go_ret
        exact ⟨ret_int (by rw [HS.out]; exact E.out), rfl⟩

set_option maxHeartbeats 1000000 in
theorem depthAbove_ok (c : Option Addr) (l d : Nat) (zs : List Int) (w : World) (hR : Rd .i64 w c zs) (hl : zs.length = l) (h2 : l ≤ 2) (hb : ∀ z ∈ zs, 0 ≤ z ∧ z ≤ 1000000) :
    Calls Tryz.prog 35 #[.slice c l d] w fun e w' => e = .returned (.int .i64 (1 + mxI zs)) ∧ w' = w := by
  have HR := Hid.mk hR
  have HL := Hid.mk hl
  have HB := Hid.mk hb
  clear hR hl hb
  go_enter Tryz.func35, Tryz.ntmps35
  go_wp2
  go_loopw [3, 8] (fun s i wr => ∃ j : Nat, j ≤ l ∧ i = .int .i64 j ∧ s = .int .i64 (mxI (zs.take j)) ∧ wr = w) (fun _ i _ => l - (intOf i).toNat)
  case atStart => exact ⟨0, Nat.zero_le _, rfl, by simp [mxI], rfl⟩
  case round =>
    obtain ⟨j, hj, rfl, rfl, hw⟩ := hrel
    subst hw
    have hin := mxI_in (zs.take j) (fun z hz => HB.out z (List.mem_of_mem_take hz))
    by_cases hjl : j < l
    · obtain ⟨z, hz⟩ : ∃ z, zs.getD j 0 = z := ⟨_, rfl⟩
      have hj1 : (j : Int) < (l : Int) := by omega
      have hzb := HB.out z (by rw [← hz]; exact rk_mem (by rw [HL.out]; exact hjl))
      have hps := mxI_next zs j (by rw [HL.out]; exact hjl) hz hzb.1
      obtain ⟨S, hS⟩ : ∃ S, mxI (zs.take j) = S := ⟨_, rfl⟩
      rw [hS] at hps hin ⊢
      rcases HR.out with h0 | ⟨b4, o4, rfl, hcz⟩
      · have := HL.out; rw [h0] at this; simp at this; omega
      have pz := hcz j (by rw [HL.out]; exact hjl)
      rw [hz] at pz
      have HPS := Hid.mk hps
      clear hcz hz hps hS
      by_cases hle : S ≤ z
      · have hle2 : ¬ (z < S) := by omega
        have e : max S z = z := by omega
        have E := Hid.mk e
        clear e
        by_cases hq : S < z
        · go_wp2
          go_roundw
          case rel => exact ⟨j + 1, by omega, by go_num, by rw [HPS.out, E.out], by trivial⟩
          case measure => simp [intOf]; omega
        · obtain rfl : S = z := by omega
          go_wp2
          go_roundw
          case rel => exact ⟨j + 1, by omega, by go_num, by rw [HPS.out, E.out], by trivial⟩
          case measure => simp [intOf]; omega
      · have hle2 : z < S := by omega
        have hle3 : ¬ (S < z) := by omega
        have e : max S z = S := by omega
        have E := Hid.mk e
        clear e
        go_wp2
        go_roundw
        case rel => exact ⟨j + 1, by omega, by go_num, by rw [HPS.out, E.out], by trivial⟩
        case measure => simp [intOf]; omega
    · obtain rfl : j = l := by omega
      rw [List.take_of_length_le (by rw [HL.out]; exact Nat.le_refl _)] at hin ⊢
      obtain ⟨S, hS⟩ : ∃ S, mxI zs = S := ⟨_, rfl⟩
      rw [hS] at hin ⊢
      have HS := Hid.mk hS
      clear hS
      have a1 : 1 + S ≤ 9223372036854775807 := by omega
      have a2 : -9223372036854775808 ≤ 1 + S := by omega
      go_wp2
      go_ret
      exact ⟨ret_int (by rw [HS.out]), rfl⟩

theorem fill_at' (xs : List Int) (k n : Nat) (h : xs.length = n) (hk : k ≤ n) (i : Nat) (hi : i < k) : (fill xs k n).getD i 0 = xs.getD i 0 := by
  unfold fill
  simp only [List.getD]
  rw [List.getElem?_append_left (by rw [List.length_take]; omega), List.getElem?_take_of_lt hi]

set_option maxRecDepth 20000 in
set_option maxHeartbeats 8000000 in
theorem reckonsz_ok (a : Option Addr) (n ca : Nat) (xs : List T4) (q : Int) (w : World) (ha : RdTerm w a xs) (hn : xs.length = n) (hx : n ≤ maxLen) (hca : n ≤ ca) (hok : ∀ t ∈ xs, okT t) :
    Calls Tryz.prog 34 #[.slice a n ca, .int .i64 q, .func (.func 56) #[] #[]] w fun e w' => e = .returned (.agg #[.int .i64 (akC xs q), .int .i64 (szV xs q)]) ∧ Below w.heap.size w w' := by
  have q1 := build_irc
  have q2 := build_irv
  have CA := Hid.mk (fun w h => placeFault_ok a n ca xs q w h hn hx hok)
  rcases szV_ways xs q with ⟨h1, hr⟩ | ⟨h1, hr⟩
  · rw [hr]
    have h2 : (akC xs q != 0) = true := by simp [h1]
    clear hr h1
    generalize akC xs q = kk at *
    go_enter Tryz.func34, Tryz.ntmps34
    have B := Below.refl w.heap.size w
    replace ha := ha.kept (belowA w (.cells #[.int .i64 0, .int .i64 0] 37))
    replace B := thenB B (belowA w (.cells #[.int .i64 0, .int .i64 0] 37))
    have VR := V.new w [.int .i64 0, .int .i64 0] 37
    obtain ⟨s_VR, f_VR, z_VR⟩ := VR.open
    have Bo := B
    go_wp2_with fail
    refine (CA.out _ ha).mono ?_
    rintro e w41 ⟨rfl, b41⟩
    clear s_VR f_VR z_VR
    have S41 := b41.size
    simp only [World.size_alloc] at S41
    replace VR := VR.kept b41
    replace ha := ha.kept b41
    replace B := thenB B b41
    clear b41
    obtain ⟨s_VR, f_VR, z_VR⟩ := VR.open
    have Bo := B
    clear s_VR f_VR z_VR
    have VF := Hid.mk (VR.filled [.int .i64 kk, .int .i64 0] rfl)
    have HT := Hid.mk VR.there
    have BR := belowCells B (show w.heap.size ≤ w.heap.size by (first | omega | (simp; done) | (simp; omega))) 0 [.int .i64 kk, .int .i64 0]
    replace BR := Hid.mk BR
    obtain ⟨s_VR, f_VR, z_VR⟩ := VR.open
    go_wp2_with (refine wpList_store_mid rfl 37 _ _ rfl (w.heap.size) 0 #[.int .i64 kk, .int .i64 0] rfl rfl HT.out (by kernel_rfl) (by kernel_rfl) ?_)
    refine bodyPost_ret (v := .agg #[.int .i64 kk, .int .i64 0]) (results_row Tryz.results34 _ _ (w.heap.size) [.int .i64 kk, .int .i64 0] _ rfl VF.out Tryz.underlying37 rfl (by kernel_rfl)) rfl ⟨rfl, BR.out⟩
  · rw [hr, h1]
    rw [h1] at CA
    obtain ⟨hv, hq0, hq1⟩ := ak_zero h1
    have hn4 : n ≤ 400 := by have := (tfC_zero hv).1; omega
    obtain ⟨m, rfl⟩ : ∃ m : Nat, q = (m : Int) := ⟨q.toNat, by omega⟩
    rw [Int.toNat_natCast]
    have hmn : m + 1 ≤ n := by omega
    have hmc : (m : Int) + 1 ≤ (ca : Int) := by omega
    have hmc2 : m + 1 ≤ ca := by omega
    have HAh := Hid.mk (tfC_ahead hv)
    have HV := Hid.mk hv
    have HA := Hid.mk ha
    have HBD := Hid.mk (show ∀ i, i < xs.length → 0 ≤ (den xs i).sz ∧ (den xs i).sz ≤ 1000000 from fun i _ => by have := (den xs i).sz_in; omega)
    have hzl := szL_len xs (m + 1)
    have HZL := Hid.mk hzl
    obtain ⟨s, hs⟩ : ∃ s, (den xs m).sz = s := ⟨_, rfl⟩
    have HSM := Hid.mk hs
    rw [hs]
    obtain ⟨i0, hi, hz0, hz1, hz2⟩ := info_parts Tryz.infoI64
    clear hr h1 hs hq0 hq1 hv
    go_enter Tryz.func34, Tryz.ntmps34
    have B := Below.refl w.heap.size w
    replace ha := ha.kept (belowA w (.cells #[.int .i64 0, .int .i64 0] 37))
    replace B := thenB B (belowA w (.cells #[.int .i64 0, .int .i64 0] 37))
    have VR := V.new w [.int .i64 0, .int .i64 0] 37
    obtain ⟨s_VR, f_VR, z_VR⟩ := VR.open
    have Bo := B
    go_wp2_with fail
    refine (CA.out _ ha).mono ?_
    rintro e w61 ⟨rfl, b61⟩
    clear s_VR f_VR z_VR
    have S61 := b61.size
    simp only [World.size_alloc] at S61
    replace VR := VR.kept b61
    replace ha := ha.kept b61
    replace B := thenB B b61
    clear b61
    obtain ⟨s_VR, f_VR, z_VR⟩ := VR.open
    have Bo := B
    have wm1 : (m : Int) + 1 ≤ 9223372036854775807 := by omega
    have hm1 : ((m : Int) + 1).toNat = m + 1 := by omega
    rcases HA.out.kept B with h0 | ⟨b1, o1, rfl, _⟩
    · rw [h0] at hn; simp at hn; omega
    go_wp2_with (at_make; go_loud (refine wpList_make_full _ rfl _ _ 52 rfl w61.heap.size 2 i0 (.int .i64 0) 1 Tryz.underlying52 hi hz0 hz1 .i64 .i64 _ _ (m + 1) rfl rfl (by omega) (by omega) (by rw [hz2]; omega) (by unfold maxLen; omega) (Nat.le_refl _) ?_))
    intro w2 hown hgrow
    have O0 : Own .i64 2 w2 w61.heap.size (some ⟨w61.heap.size, 0, none⟩) (m + 1) (fill (szL xs (m + 1)) 0 (m + 1)) := by
      refine Own.mk ?_ (length_fill _ _ _ hzl (Nat.zero_le _))
      rw [fill_zero]
      simpa [toList_madeCells_one] using hown
    have B2 := B.grown hgrow (by omega) (by intro k hk; cases hk)
    have VR2 := VR.grownR hgrow (by simp)
    have hS2 := hgrow.size
    have hQ1 : w.heap.size < w61.heap.size := VR.1
    clear hown hgrow B VR Bo ha
    clear s_VR f_VR z_VR
    obtain ⟨Q, hQ⟩ : ∃ Q, w61.heap.size = Q := ⟨_, rfl⟩
    rw [hQ] at O0 hQ1 ⊢
    replace O0 := Hid.mk O0
    replace VR2 := Hid.mk VR2
    replace B2 := Hid.mk B2
    clear hQ hS2 hi hz0 hz1 hz2
    go_wp2
    go_loopw [29] (fun i wr => ∃ k : Nat, k ≤ m + 1 ∧ i = .int .i64 k ∧ Own .i64 2 wr Q (some ⟨Q, 0, none⟩) (m + 1) (fill (szL xs (m + 1)) k (m + 1)) ∧ V wr w.heap.size [.int .i64 0, .int .i64 0] ∧ Below w.heap.size w wr) (fun i _ => m + 1 - (intOf i).toNat)
    case atStart => exact ⟨0, Nat.zero_le _, rfl, O0.out, VR2.out, B2.out⟩
    case round =>
      clear O0 VR2 B2
      obtain ⟨k, hk, rfl, O, VR, B⟩ := hrel
      by_cases hlt : k < m + 1
      · obtain ⟨x, hx1⟩ : ∃ x, xs.getD k zTerm = x := ⟨_, rfl⟩
        have hk1 : (k : Int) < (m : Int) + 1 := by omega
        have HOP := op_right HV.out k (by omega) hx1
        have HSZ := Hid.mk (sz_rk k (by omega) HAh.out hx1)
        have HPA := Hid.mk (plc_ahead k (by omega) HAh.out hx1)
        have hpl := plc_len x
        rcases HA.out.kept B with h0 | ⟨b2, o2, e2, hca2⟩
        · rw [h0] at hn; simp at hn; omega
        simp only [Option.some.injEq, Addr.mk.injEq, and_true] at e2
        obtain ⟨rfl, rfl⟩ := e2
        obtain ⟨p0, p1, p2, p3⟩ := RdTerm.cells hca2 k (by omega) x hx1
        clear hca2 hx1
        obtain ⟨ps, hps⟩ : ∃ ps, ((plc x).map fun z => (den xs z.toNat).sz) = ps := ⟨_, rfl⟩
        rw [hps] at HSZ
        have hpsb : Hid (∀ z ∈ ps, 0 ≤ z ∧ z ≤ 1000000) := Hid.mk (fun z hz => by
          rw [← hps, List.mem_map] at hz
          obtain ⟨y, hy, rfl⟩ := hz
          have := HPA.out y hy
          exact HBD.out _ (by omega))
        have hpsl : ps.length = (plc x).length := by rw [← hps, List.length_map]
        replace VR := VR.kept (belowA wr (.cells #[.int .i64 x.o, .int .i64 x.a, .int .i64 x.b, .int .i64 x.n] 70))
        replace O := O.kept (belowA wr (.cells #[.int .i64 x.o, .int .i64 x.a, .int .i64 x.b, .int .i64 x.n] 70))
        replace B := thenB B (belowA wr (.cells #[.int .i64 x.o, .int .i64 x.a, .int .i64 x.b, .int .i64 x.n] 70))
        have VX := V.new wr [.int .i64 x.o, .int .i64 x.a, .int .i64 x.b, .int .i64 x.n] 70
        obtain ⟨s_VR, f_VR, z_VR⟩ := VR.open
        obtain ⟨s_VX, f_VX, z_VX⟩ := VX.open
        have Bo := B
        go_wp2_with fail
        refine (placesIn_ok x HOP _).mono ?_
        rintro e w81 ⟨c2, d2, rfl, O2, b81⟩
        clear s_VR f_VR z_VR s_VX f_VX z_VX
        have S81 := b81.size
        simp only [World.size_alloc] at S81
        replace VR := VR.kept b81
        replace VX := VX.kept b81
        replace O := O.kept b81
        replace B := thenB B b81
        clear b81
        obtain ⟨s_VR, f_VR, z_VR⟩ := VR.open
        obtain ⟨s_VX, f_VX, z_VX⟩ := VX.open
        have Bo := B
        obtain ⟨l, hl⟩ : ∃ l, (plc x).length = l := ⟨_, rfl⟩
        rw [hl] at hpl hpsl ⊢
        have HL := Hid.mk hl
        have HPL := Hid.mk hpsl
        have HPS := Hid.mk hps
        have HO := Hid.mk O
        have HO2 := Hid.mk O2.rd
        have HB := Hid.mk B
        have HVR := Hid.mk VR
        have hQW := (O.lt _ rfl).2
        simp only at hQW
        have CF := Hid.mk (fun c d w h => sizeAbove_ok c l d ps w h hpsl hpl hpsb.out)
        rw [HSZ.out] at CF
        clear O O2 B VX VR Bo p0 p1 p2 p3 hl hpsl hps
        clear s_VR f_VR z_VR s_VX f_VX z_VX
        go_wp2
        go_loopw [11, 37] (fun s i wq => ∃ (j : Nat) (c3 : Option Addr) (d3 : Nat), j ≤ l ∧ i = .int .i64 j ∧ s = .slice c3 j d3 ∧ Own .i64 2 wq w81.heap.size c3 d3 (ps.take j) ∧ Below w81.heap.size w81 wq) (fun _ i _ => l - (intOf i).toNat)
        case atStart => exact ⟨0, none, 0, Nat.zero_le _, rfl, rfl, own_none, Below.refl _ _⟩
        case round =>
          obtain ⟨j, c3, d3, hj, rfl, rfl, O3, B3⟩ := hrel
          by_cases hjl : j < l
          · obtain ⟨z, hz⟩ : ∃ z, (plc x).getD j 0 = z := ⟨_, rfl⟩
            have hj1 : (j : Int) < (l : Int) := by omega
            have hzk := HPA.out z (by rw [← hz]; exact rk_mem (by rw [HL.out]; exact hjl))
            obtain ⟨u, rfl⟩ : ∃ u : Nat, z = (u : Int) := ⟨z.toNat, by omega⟩
            have hu : u < k := by omega
            have hum : (u : Int) < (m : Int) + 1 := by omega
            have hcu : wr.cell? ⟨Q, u, none⟩ = some (.int .i64 (den xs u).sz) := by
              have h1 := (HO.out.kept B3).rd
              have hfl := length_fill (szL xs (m + 1)) k (m + 1) HZL.out hk
              rcases h1 with h1 | ⟨b3, o3, e3, h1⟩
              · rw [h1] at hfl; simp at hfl
              · simp only [Option.some.injEq, Addr.mk.injEq, and_true] at e3
                obtain ⟨rfl, rfl⟩ := e3
                have h2 := h1 u (by omega)
                rw [Nat.zero_add] at h2
                rw [h2, fill_at' (szL xs (m + 1)) k (m + 1) HZL.out hk u hu, szL_at xs (m + 1) u (by omega)]
            have hnx : ps.take (j + 1) = ps.take j ++ [(den xs u).sz] := by
              rw [take_snoc ps j (by rw [HPL.out]; exact hjl), ← HPS.out]
              congr 2
              rw [show ((plc x).map fun z => (den xs z.toNat).sz).getD j 0 = (den xs ((plc x).getD j 0).toNat).sz by simp [List.getD, show j < (plc x).length by rw [HL.out]; exact hjl], hz, Int.toNat_natCast]
            obtain ⟨v, hv2⟩ : ∃ v, (den xs u).sz = v := ⟨_, rfl⟩
            rw [hv2] at hcu hnx
            rcases (HO2.out.kept B3) with h0 | ⟨b4, o4, rfl, hcz⟩
            · have := HL.out; rw [h0] at this; simp at this; omega
            have pz := hcz j (by rw [HL.out]; exact hjl)
            rw [hz] at pz
            have htl : (ps.take j).length = j := by rw [List.length_take, HPL.out]; omega
            have HTL := Hid.mk htl
            have HNX := Hid.mk hnx
            have O4 := O3.kept (belowA wr (.cells #[.int .i64 v] 2))
            have B4 := B3.alloc B3.size (.cells #[.int .i64 v] 2)
            have TL := B4.size
            replace B4 := Hid.mk B4
            replace O4 := Hid.mk O4
            clear hcz hz hv2 htl hnx O3 B3
            go_wp2_with (first | (at_builtin; go_loud (refine wpList_putI _ rfl _ _ rfl w81.heap.size c3 d3 (ps.take j) j HTL.out rfl O4.out _ 1 v rfl (cell_one' _ _ _ 0 _ rfl) (by omega) TL ?_)) | fail)
            intro c5 d5 w5 O5 hg5 hx5
            have B5 := Hid.mk (belowG (c := c3) B4.out hg5 TL (fun b hb => (O4.out.lt b hb).1))
            rw [← HNX.out] at O5
            replace O5 := Hid.mk O5
            clear hg5 hx5 TL
            go_wp2
            go_roundw
            case rel => exact ⟨j + 1, c5, d5, by omega, by go_num, rfl, O5.out, B5.out⟩
            case measure => simp [intOf]; omega
          · obtain rfl : j = l := by omega
            rw [List.take_of_length_le (by rw [HPL.out]; exact Nat.le_refl _)] at O3
            have HO3 := Hid.mk O3.rd
            have hown0 := HO.out.kept B3
            have hsz3 := B3.size
            obtain ⟨v, hv2⟩ : ∃ v, (den xs k).sz = v := ⟨_, rfl⟩
            rw [hv2] at CF
            have hown := hown0.row (length_fill _ _ _ HZL.out hk)
            have h2 : wr.frozen? ⟨Q, k, none⟩ = false := hown.frozenAt k
            have h3 : wr.cell? ⟨Q, k, none⟩ = some (.int .i64 ((fill (szL xs (m + 1)) k (m + 1)).getD k 0)) := by
              rw [hown.cellAt k (by omega)]
              simp [List.getD, length_fill _ _ _ HZL.out hk, hlt]
            have hs3 := hown.stored k (.int .i64 v)
            rw [set_map, ← hv2, ← szL_at xs (m + 1) k hlt, fill_set _ _ _ HZL.out hlt, szL_at xs (m + 1) k hlt, hv2] at hs3
            have HS3 := Hid.mk (Own.mk hs3.1 (length_fill _ _ _ HZL.out (by omega)))
            have VR3 := Hid.mk ((HVR.out.kept B3).other (p := ⟨Q, k, none⟩) (by simp only; omega) (.int .i64 v))
            have B6 := Hid.mk ((thenB HB.out B3).setCell (p := ⟨Q, k, none⟩) (by simp only; omega) (.int .i64 v))
            clear hs3 hown hown0 hv2 O3 B3
            go_wp2_with fail
            refine (CF.out _ _ _ HO3.out).mono ?_
            rintro e wq ⟨rfl, rfl⟩
            go_wp2
            go_roundw
            case rel => exact ⟨k + 1, by omega, by go_num, HS3.out, VR3.out, B6.out⟩
            case measure => simp [intOf]; omega
      · obtain rfl : k = m + 1 := by omega
        rw [fill_all _ _ HZL.out] at O
        have hcm : wr.cell? ⟨Q, m, none⟩ = some (.int .i64 s) := by
          rcases O.rd with h1 | ⟨b3, o3, e3, h1⟩
          · have := HZL.out; rw [h1] at this; simp at this
          · simp only [Option.some.injEq, Addr.mk.injEq, and_true] at e3
            obtain ⟨rfl, rfl⟩ := e3
            have h2 := h1 m (by rw [HZL.out]; omega)
            rw [Nat.zero_add] at h2
            rw [h2, szL_at xs (m + 1) m (by omega), HSM.out]
        clear O
        have hmm : (m : Int) < (m : Int) + 1 := by omega
        obtain ⟨s_VR, f_VR, z_VR⟩ := VR.open
        have Bo := B
        clear s_VR f_VR z_VR
        have VF := Hid.mk (VR.filled [.int .i64 0, .int .i64 s] rfl)
        have HT := Hid.mk VR.there
        have BR := belowCells B (show w.heap.size ≤ w.heap.size by (first | omega | (simp; done) | (simp; omega))) 0 [.int .i64 0, .int .i64 s]
        replace BR := Hid.mk BR
        obtain ⟨s_VR, f_VR, z_VR⟩ := VR.open
        go_wp2_with (refine wpList_store_mid rfl 37 _ _ rfl (w.heap.size) 0 #[.int .i64 0, .int .i64 s] rfl rfl HT.out (by kernel_rfl) (by kernel_rfl) ?_)
        refine bodyPost_ret (v := .agg #[.int .i64 0, .int .i64 s]) (results_row Tryz.results34 _ _ (w.heap.size) [.int .i64 0, .int .i64 s] _ rfl VF.out Tryz.underlying37 rfl (by kernel_rfl)) rfl ⟨rfl, BR.out⟩

set_option maxHeartbeats 2000000 in
theorem implSizeOf_ok (a : Option Addr) (n ca : Nat) (xs : List T4) (q : Int) (w : World) (ha : RdTerm w a xs) (hn : xs.length = n) (hx : n ≤ maxLen) (hca : n ≤ ca) (hok : ∀ t ∈ xs, okT t) :
    Calls Tryz.prog 26 #[.slice a n ca, .int .i64 q] w fun e w' => e = .returned (.agg #[.int .i64 (akC xs q), .int .i64 (szV xs q)]) ∧ Below w.heap.size w w' := by
  have CA := Hid.mk (fun w h => reckonsz_ok a n ca xs q w h hn hx hca hok)
  generalize akC xs q = kk at *
  generalize szV xs q = vv at *
  go_enter Tryz.func26, Tryz.ntmps26
  have B := Below.refl w.heap.size w
  replace ha := ha.kept (belowA w (.cells #[.int .i64 0, .int .i64 0] 37))
  replace B := thenB B (belowA w (.cells #[.int .i64 0, .int .i64 0] 37))
  have VR := V.new w [.int .i64 0, .int .i64 0] 37
  obtain ⟨s_VR, f_VR, z_VR⟩ := VR.open
  have Bo := B
  go_wp2_with fail
  refine (CA.out _ ha).mono ?_
  rintro e w141 ⟨rfl, b141⟩
  clear s_VR f_VR z_VR
  have S141 := b141.size
  simp only [World.size_alloc] at S141
  replace VR := VR.kept b141
  replace ha := ha.kept b141
  replace B := thenB B b141
  clear b141
  obtain ⟨s_VR, f_VR, z_VR⟩ := VR.open
  have Bo := B
  clear s_VR f_VR z_VR
  have VF := Hid.mk (VR.filled [.int .i64 kk, .int .i64 vv] rfl)
  have HT := Hid.mk VR.there
  have BR := belowCells B (show w.heap.size ≤ w.heap.size by (first | omega | (simp; done) | (simp; omega))) 0 [.int .i64 kk, .int .i64 vv]
  replace BR := Hid.mk BR
  obtain ⟨s_VR, f_VR, z_VR⟩ := VR.open
  go_wp2_with (refine wpList_store_mid rfl 37 _ _ rfl (w.heap.size) 0 #[.int .i64 kk, .int .i64 vv] rfl rfl HT.out (by kernel_rfl) (by kernel_rfl) ?_)
  refine bodyPost_ret (v := .agg #[.int .i64 kk, .int .i64 vv]) (results_row Tryz.results26 _ _ (w.heap.size) [.int .i64 kk, .int .i64 vv] _ rfl VF.out Tryz.underlying37 rfl (by kernel_rfl)) rfl ⟨rfl, BR.out⟩

end Go.Proofs.YtfldgeokigcokaaGreat

/- reckonTerm with the depth above; DepthOf of the program. -/
namespace Go.Proofs.YtfldgeokigcokaaGreat
open Go.RowKit

set_option maxRecDepth 20000 in
set_option maxHeartbeats 8000000 in
theorem reckondp_ok (a : Option Addr) (n ca : Nat) (xs : List T4) (q : Int) (w : World) (ha : RdTerm w a xs) (hn : xs.length = n) (hx : n ≤ maxLen) (hca : n ≤ ca) (hok : ∀ t ∈ xs, okT t) :
    Calls Tryz.prog 34 #[.slice a n ca, .int .i64 q, .func (.func 35) #[] #[]] w fun e w' => e = .returned (.agg #[.int .i64 (akC xs q), .int .i64 (dpV xs q)]) ∧ Below w.heap.size w w' := by
  have q1 := build_irc
  have q2 := build_irv
  have CA := Hid.mk (fun w h => placeFault_ok a n ca xs q w h hn hx hok)
  rcases dpV_ways xs q with ⟨h1, hr⟩ | ⟨h1, hr⟩
  · rw [hr]
    have h2 : (akC xs q != 0) = true := by simp [h1]
    clear hr h1
    generalize akC xs q = kk at *
    go_enter Tryz.func34, Tryz.ntmps34
    have B := Below.refl w.heap.size w
    replace ha := ha.kept (belowA w (.cells #[.int .i64 0, .int .i64 0] 37))
    replace B := thenB B (belowA w (.cells #[.int .i64 0, .int .i64 0] 37))
    have VR := V.new w [.int .i64 0, .int .i64 0] 37
    obtain ⟨s_VR, f_VR, z_VR⟩ := VR.open
    have Bo := B
    go_wp2_with fail
    refine (CA.out _ ha).mono ?_
    rintro e w41 ⟨rfl, b41⟩
    clear s_VR f_VR z_VR
    have S41 := b41.size
    simp only [World.size_alloc] at S41
    replace VR := VR.kept b41
    replace ha := ha.kept b41
    replace B := thenB B b41
    clear b41
    obtain ⟨s_VR, f_VR, z_VR⟩ := VR.open
    have Bo := B
    clear s_VR f_VR z_VR
    have VF := Hid.mk (VR.filled [.int .i64 kk, .int .i64 0] rfl)
    have HT := Hid.mk VR.there
    have BR := belowCells B (show w.heap.size ≤ w.heap.size by (first | omega | (simp; done) | (simp; omega))) 0 [.int .i64 kk, .int .i64 0]
    replace BR := Hid.mk BR
    obtain ⟨s_VR, f_VR, z_VR⟩ := VR.open
    go_wp2_with (refine wpList_store_mid rfl 37 _ _ rfl (w.heap.size) 0 #[.int .i64 kk, .int .i64 0] rfl rfl HT.out (by kernel_rfl) (by kernel_rfl) ?_)
    refine bodyPost_ret (v := .agg #[.int .i64 kk, .int .i64 0]) (results_row Tryz.results34 _ _ (w.heap.size) [.int .i64 kk, .int .i64 0] _ rfl VF.out Tryz.underlying37 rfl (by kernel_rfl)) rfl ⟨rfl, BR.out⟩
  · rw [hr, h1]
    rw [h1] at CA
    obtain ⟨hv, hq0, hq1⟩ := ak_zero h1
    have hn4 : n ≤ 400 := by have := (tfC_zero hv).1; omega
    obtain ⟨m, rfl⟩ : ∃ m : Nat, q = (m : Int) := ⟨q.toNat, by omega⟩
    rw [Int.toNat_natCast]
    have hmn : m + 1 ≤ n := by omega
    have hmc : (m : Int) + 1 ≤ (ca : Int) := by omega
    have hmc2 : m + 1 ≤ ca := by omega
    have HAh := Hid.mk (tfC_ahead hv)
    have HV := Hid.mk hv
    have HA := Hid.mk ha
    have HBD := Hid.mk (show ∀ i, i < xs.length → 0 ≤ (den xs i).dp ∧ (den xs i).dp ≤ 1000000 from fun i hi => by have := dp_in hv i hi; omega)
    have hzl := dpL_len xs (m + 1)
    have HZL := Hid.mk hzl
    obtain ⟨s, hs⟩ : ∃ s, (den xs m).dp = s := ⟨_, rfl⟩
    have HSM := Hid.mk hs
    rw [hs]
    obtain ⟨i0, hi, hz0, hz1, hz2⟩ := info_parts Tryz.infoI64
    clear hr h1 hs hq0 hq1 hv
    go_enter Tryz.func34, Tryz.ntmps34
    have B := Below.refl w.heap.size w
    replace ha := ha.kept (belowA w (.cells #[.int .i64 0, .int .i64 0] 37))
    replace B := thenB B (belowA w (.cells #[.int .i64 0, .int .i64 0] 37))
    have VR := V.new w [.int .i64 0, .int .i64 0] 37
    obtain ⟨s_VR, f_VR, z_VR⟩ := VR.open
    have Bo := B
    go_wp2_with fail
    refine (CA.out _ ha).mono ?_
    rintro e w61 ⟨rfl, b61⟩
    clear s_VR f_VR z_VR
    have S61 := b61.size
    simp only [World.size_alloc] at S61
    replace VR := VR.kept b61
    replace ha := ha.kept b61
    replace B := thenB B b61
    clear b61
    obtain ⟨s_VR, f_VR, z_VR⟩ := VR.open
    have Bo := B
    have wm1 : (m : Int) + 1 ≤ 9223372036854775807 := by omega
    have hm1 : ((m : Int) + 1).toNat = m + 1 := by omega
    rcases HA.out.kept B with h0 | ⟨b1, o1, rfl, _⟩
    · rw [h0] at hn; simp at hn; omega
    go_wp2_with (at_make; go_loud (refine wpList_make_full _ rfl _ _ 52 rfl w61.heap.size 2 i0 (.int .i64 0) 1 Tryz.underlying52 hi hz0 hz1 .i64 .i64 _ _ (m + 1) rfl rfl (by omega) (by omega) (by rw [hz2]; omega) (by unfold maxLen; omega) (Nat.le_refl _) ?_))
    intro w2 hown hgrow
    have O0 : Own .i64 2 w2 w61.heap.size (some ⟨w61.heap.size, 0, none⟩) (m + 1) (fill (dpL xs (m + 1)) 0 (m + 1)) := by
      refine Own.mk ?_ (length_fill _ _ _ hzl (Nat.zero_le _))
      rw [fill_zero]
      simpa [toList_madeCells_one] using hown
    have B2 := B.grown hgrow (by omega) (by intro k hk; cases hk)
    have VR2 := VR.grownR hgrow (by simp)
    have hS2 := hgrow.size
    have hQ1 : w.heap.size < w61.heap.size := VR.1
    clear hown hgrow B VR Bo ha
    clear s_VR f_VR z_VR
    obtain ⟨Q, hQ⟩ : ∃ Q, w61.heap.size = Q := ⟨_, rfl⟩
    rw [hQ] at O0 hQ1 ⊢
    replace O0 := Hid.mk O0
    replace VR2 := Hid.mk VR2
    replace B2 := Hid.mk B2
    clear hQ hS2 hi hz0 hz1 hz2
    go_wp2
    go_loopw [29] (fun i wr => ∃ k : Nat, k ≤ m + 1 ∧ i = .int .i64 k ∧ Own .i64 2 wr Q (some ⟨Q, 0, none⟩) (m + 1) (fill (dpL xs (m + 1)) k (m + 1)) ∧ V wr w.heap.size [.int .i64 0, .int .i64 0] ∧ Below w.heap.size w wr) (fun i _ => m + 1 - (intOf i).toNat)
    case atStart => exact ⟨0, Nat.zero_le _, rfl, O0.out, VR2.out, B2.out⟩
    case round =>
      clear O0 VR2 B2
      obtain ⟨k, hk, rfl, O, VR, B⟩ := hrel
      by_cases hlt : k < m + 1
      · obtain ⟨x, hx1⟩ : ∃ x, xs.getD k zTerm = x := ⟨_, rfl⟩
        have hk1 : (k : Int) < (m : Int) + 1 := by omega
        have HOP := op_right HV.out k (by omega) hx1
        have HSZ := Hid.mk (dp_rk k (by omega) HAh.out hx1)
        have HPA := Hid.mk (plc_ahead k (by omega) HAh.out hx1)
        have hpl := plc_len x
        rcases HA.out.kept B with h0 | ⟨b2, o2, e2, hca2⟩
        · rw [h0] at hn; simp at hn; omega
        simp only [Option.some.injEq, Addr.mk.injEq, and_true] at e2
        obtain ⟨rfl, rfl⟩ := e2
        obtain ⟨p0, p1, p2, p3⟩ := RdTerm.cells hca2 k (by omega) x hx1
        clear hca2 hx1
        obtain ⟨ps, hps⟩ : ∃ ps, ((plc x).map fun z => (den xs z.toNat).dp) = ps := ⟨_, rfl⟩
        rw [hps] at HSZ
        have hpsb : Hid (∀ z ∈ ps, 0 ≤ z ∧ z ≤ 1000000) := Hid.mk (fun z hz => by
          rw [← hps, List.mem_map] at hz
          obtain ⟨y, hy, rfl⟩ := hz
          have := HPA.out y hy
          exact HBD.out _ (by omega))
        have hpsl : ps.length = (plc x).length := by rw [← hps, List.length_map]
        replace VR := VR.kept (belowA wr (.cells #[.int .i64 x.o, .int .i64 x.a, .int .i64 x.b, .int .i64 x.n] 70))
        replace O := O.kept (belowA wr (.cells #[.int .i64 x.o, .int .i64 x.a, .int .i64 x.b, .int .i64 x.n] 70))
        replace B := thenB B (belowA wr (.cells #[.int .i64 x.o, .int .i64 x.a, .int .i64 x.b, .int .i64 x.n] 70))
        have VX := V.new wr [.int .i64 x.o, .int .i64 x.a, .int .i64 x.b, .int .i64 x.n] 70
        obtain ⟨s_VR, f_VR, z_VR⟩ := VR.open
        obtain ⟨s_VX, f_VX, z_VX⟩ := VX.open
        have Bo := B
        go_wp2_with fail
        refine (placesIn_ok x HOP _).mono ?_
        rintro e w81 ⟨c2, d2, rfl, O2, b81⟩
        clear s_VR f_VR z_VR s_VX f_VX z_VX
        have S81 := b81.size
        simp only [World.size_alloc] at S81
        replace VR := VR.kept b81
        replace VX := VX.kept b81
        replace O := O.kept b81
        replace B := thenB B b81
        clear b81
        obtain ⟨s_VR, f_VR, z_VR⟩ := VR.open
        obtain ⟨s_VX, f_VX, z_VX⟩ := VX.open
        have Bo := B
        obtain ⟨l, hl⟩ : ∃ l, (plc x).length = l := ⟨_, rfl⟩
        rw [hl] at hpl hpsl ⊢
        have HL := Hid.mk hl
        have HPL := Hid.mk hpsl
        have HPS := Hid.mk hps
        have HO := Hid.mk O
        have HO2 := Hid.mk O2.rd
        have HB := Hid.mk B
        have HVR := Hid.mk VR
        have hQW := (O.lt _ rfl).2
        simp only at hQW
        have CF := Hid.mk (fun c d w h => depthAbove_ok c l d ps w h hpsl hpl hpsb.out)
        rw [HSZ.out] at CF
        clear O O2 B VX VR Bo p0 p1 p2 p3 hl hpsl hps
        clear s_VR f_VR z_VR s_VX f_VX z_VX
        go_wp2
        go_loopw [11, 37] (fun s i wq => ∃ (j : Nat) (c3 : Option Addr) (d3 : Nat), j ≤ l ∧ i = .int .i64 j ∧ s = .slice c3 j d3 ∧ Own .i64 2 wq w81.heap.size c3 d3 (ps.take j) ∧ Below w81.heap.size w81 wq) (fun _ i _ => l - (intOf i).toNat)
        case atStart => exact ⟨0, none, 0, Nat.zero_le _, rfl, rfl, own_none, Below.refl _ _⟩
        case round =>
          obtain ⟨j, c3, d3, hj, rfl, rfl, O3, B3⟩ := hrel
          by_cases hjl : j < l
          · obtain ⟨z, hz⟩ : ∃ z, (plc x).getD j 0 = z := ⟨_, rfl⟩
            have hj1 : (j : Int) < (l : Int) := by omega
            have hzk := HPA.out z (by rw [← hz]; exact rk_mem (by rw [HL.out]; exact hjl))
            obtain ⟨u, rfl⟩ : ∃ u : Nat, z = (u : Int) := ⟨z.toNat, by omega⟩
            have hu : u < k := by omega
            have hum : (u : Int) < (m : Int) + 1 := by omega
            have hcu : wr.cell? ⟨Q, u, none⟩ = some (.int .i64 (den xs u).dp) := by
              have h1 := (HO.out.kept B3).rd
              have hfl := length_fill (dpL xs (m + 1)) k (m + 1) HZL.out hk
              rcases h1 with h1 | ⟨b3, o3, e3, h1⟩
              · rw [h1] at hfl; simp at hfl
              · simp only [Option.some.injEq, Addr.mk.injEq, and_true] at e3
                obtain ⟨rfl, rfl⟩ := e3
                have h2 := h1 u (by omega)
                rw [Nat.zero_add] at h2
                rw [h2, fill_at' (dpL xs (m + 1)) k (m + 1) HZL.out hk u hu, dpL_at xs (m + 1) u (by omega)]
            have hnx : ps.take (j + 1) = ps.take j ++ [(den xs u).dp] := by
              rw [take_snoc ps j (by rw [HPL.out]; exact hjl), ← HPS.out]
              congr 2
              rw [show ((plc x).map fun z => (den xs z.toNat).dp).getD j 0 = (den xs ((plc x).getD j 0).toNat).dp by simp [List.getD, show j < (plc x).length by rw [HL.out]; exact hjl], hz, Int.toNat_natCast]
            obtain ⟨v, hv2⟩ : ∃ v, (den xs u).dp = v := ⟨_, rfl⟩
            rw [hv2] at hcu hnx
            rcases (HO2.out.kept B3) with h0 | ⟨b4, o4, rfl, hcz⟩
            · have := HL.out; rw [h0] at this; simp at this; omega
            have pz := hcz j (by rw [HL.out]; exact hjl)
            rw [hz] at pz
            have htl : (ps.take j).length = j := by rw [List.length_take, HPL.out]; omega
            have HTL := Hid.mk htl
            have HNX := Hid.mk hnx
            have O4 := O3.kept (belowA wr (.cells #[.int .i64 v] 2))
            have B4 := B3.alloc B3.size (.cells #[.int .i64 v] 2)
            have TL := B4.size
            replace B4 := Hid.mk B4
            replace O4 := Hid.mk O4
            clear hcz hz hv2 htl hnx O3 B3
            go_wp2_with (first | (at_builtin; go_loud (refine wpList_putI _ rfl _ _ rfl w81.heap.size c3 d3 (ps.take j) j HTL.out rfl O4.out _ 1 v rfl (cell_one' _ _ _ 0 _ rfl) (by omega) TL ?_)) | fail)
            intro c5 d5 w5 O5 hg5 hx5
            have B5 := Hid.mk (belowG (c := c3) B4.out hg5 TL (fun b hb => (O4.out.lt b hb).1))
            rw [← HNX.out] at O5
            replace O5 := Hid.mk O5
            clear hg5 hx5 TL
            go_wp2
            go_roundw
            case rel => exact ⟨j + 1, c5, d5, by omega, by go_num, rfl, O5.out, B5.out⟩
            case measure => simp [intOf]; omega
          · obtain rfl : j = l := by omega
            rw [List.take_of_length_le (by rw [HPL.out]; exact Nat.le_refl _)] at O3
            have HO3 := Hid.mk O3.rd
            have hown0 := HO.out.kept B3
            have hsz3 := B3.size
            obtain ⟨v, hv2⟩ : ∃ v, (den xs k).dp = v := ⟨_, rfl⟩
            rw [hv2] at CF
            have hown := hown0.row (length_fill _ _ _ HZL.out hk)
            have h2 : wr.frozen? ⟨Q, k, none⟩ = false := hown.frozenAt k
            have h3 : wr.cell? ⟨Q, k, none⟩ = some (.int .i64 ((fill (dpL xs (m + 1)) k (m + 1)).getD k 0)) := by
              rw [hown.cellAt k (by omega)]
              simp [List.getD, length_fill _ _ _ HZL.out hk, hlt]
            have hs3 := hown.stored k (.int .i64 v)
            rw [set_map, ← hv2, ← dpL_at xs (m + 1) k hlt, fill_set _ _ _ HZL.out hlt, dpL_at xs (m + 1) k hlt, hv2] at hs3
            have HS3 := Hid.mk (Own.mk hs3.1 (length_fill _ _ _ HZL.out (by omega)))
            have VR3 := Hid.mk ((HVR.out.kept B3).other (p := ⟨Q, k, none⟩) (by simp only; omega) (.int .i64 v))
            have B6 := Hid.mk ((thenB HB.out B3).setCell (p := ⟨Q, k, none⟩) (by simp only; omega) (.int .i64 v))
            clear hs3 hown hown0 hv2 O3 B3
            go_wp2_with fail
            refine (CF.out _ _ _ HO3.out).mono ?_
            rintro e wq ⟨rfl, rfl⟩
            go_wp2
            go_roundw
            case rel => exact ⟨k + 1, by omega, by go_num, HS3.out, VR3.out, B6.out⟩
            case measure => simp [intOf]; omega
      · obtain rfl : k = m + 1 := by omega
        rw [fill_all _ _ HZL.out] at O
        have hcm : wr.cell? ⟨Q, m, none⟩ = some (.int .i64 s) := by
          rcases O.rd with h1 | ⟨b3, o3, e3, h1⟩
          · have := HZL.out; rw [h1] at this; simp at this
          · simp only [Option.some.injEq, Addr.mk.injEq, and_true] at e3
            obtain ⟨rfl, rfl⟩ := e3
            have h2 := h1 m (by rw [HZL.out]; omega)
            rw [Nat.zero_add] at h2
            rw [h2, dpL_at xs (m + 1) m (by omega), HSM.out]
        clear O
        have hmm : (m : Int) < (m : Int) + 1 := by omega
        obtain ⟨s_VR, f_VR, z_VR⟩ := VR.open
        have Bo := B
        clear s_VR f_VR z_VR
        have VF := Hid.mk (VR.filled [.int .i64 0, .int .i64 s] rfl)
        have HT := Hid.mk VR.there
        have BR := belowCells B (show w.heap.size ≤ w.heap.size by (first | omega | (simp; done) | (simp; omega))) 0 [.int .i64 0, .int .i64 s]
        replace BR := Hid.mk BR
        obtain ⟨s_VR, f_VR, z_VR⟩ := VR.open
        go_wp2_with (refine wpList_store_mid rfl 37 _ _ rfl (w.heap.size) 0 #[.int .i64 0, .int .i64 s] rfl rfl HT.out (by kernel_rfl) (by kernel_rfl) ?_)
        refine bodyPost_ret (v := .agg #[.int .i64 0, .int .i64 s]) (results_row Tryz.results34 _ _ (w.heap.size) [.int .i64 0, .int .i64 s] _ rfl VF.out Tryz.underlying37 rfl (by kernel_rfl)) rfl ⟨rfl, BR.out⟩

set_option maxHeartbeats 2000000 in
theorem implDepthOf_ok (a : Option Addr) (n ca : Nat) (xs : List T4) (q : Int) (w : World) (ha : RdTerm w a xs) (hn : xs.length = n) (hx : n ≤ maxLen) (hca : n ≤ ca) (hok : ∀ t ∈ xs, okT t) :
    Calls Tryz.prog 12 #[.slice a n ca, .int .i64 q] w fun e w' => e = .returned (.agg #[.int .i64 (akC xs q), .int .i64 (dpV xs q)]) ∧ Below w.heap.size w w' := by
  have CA := Hid.mk (fun w h => reckondp_ok a n ca xs q w h hn hx hca hok)
  generalize akC xs q = kk at *
  generalize dpV xs q = vv at *
  go_enter Tryz.func12, Tryz.ntmps12
  have B := Below.refl w.heap.size w
  replace ha := ha.kept (belowA w (.cells #[.int .i64 0, .int .i64 0] 37))
  replace B := thenB B (belowA w (.cells #[.int .i64 0, .int .i64 0] 37))
  have VR := V.new w [.int .i64 0, .int .i64 0] 37
  obtain ⟨s_VR, f_VR, z_VR⟩ := VR.open
  have Bo := B
  go_wp2_with fail
  refine (CA.out _ ha).mono ?_
  rintro e w141 ⟨rfl, b141⟩
  clear s_VR f_VR z_VR
  have S141 := b141.size
  simp only [World.size_alloc] at S141
  replace VR := VR.kept b141
  replace ha := ha.kept b141
  replace B := thenB B b141
  clear b141
  obtain ⟨s_VR, f_VR, z_VR⟩ := VR.open
  have Bo := B
  clear s_VR f_VR z_VR
  have VF := Hid.mk (VR.filled [.int .i64 kk, .int .i64 vv] rfl)
  have HT := Hid.mk VR.there
  have BR := belowCells B (show w.heap.size ≤ w.heap.size by (first | omega | (simp; done) | (simp; omega))) 0 [.int .i64 kk, .int .i64 vv]
  replace BR := Hid.mk BR
  obtain ⟨s_VR, f_VR, z_VR⟩ := VR.open
  go_wp2_with (refine wpList_store_mid rfl 37 _ _ rfl (w.heap.size) 0 #[.int .i64 kk, .int .i64 vv] rfl rfl HT.out (by kernel_rfl) (by kernel_rfl) ?_)
  refine bodyPost_ret (v := .agg #[.int .i64 kk, .int .i64 vv]) (results_row Tryz.results12 _ _ (w.heap.size) [.int .i64 kk, .int .i64 vv] _ rfl VF.out Tryz.underlying37 rfl (by kernel_rfl)) rfl ⟨rfl, BR.out⟩

end Go.Proofs.YtfldgeokigcokaaGreat
