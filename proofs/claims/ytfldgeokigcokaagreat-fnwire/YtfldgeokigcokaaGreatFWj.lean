/- Put together: WrB, WrG. -/
import Derived.Test.YtfldgeokigcokaaGreatFWn

/- Terms as bytes: the model's way of reading; what is read is written, what is written is read. -/
namespace Go.Proofs.YtfldgeokigcokaaGreat
open Go.RowKit

/-- The model's way of reading: what is put, and where it ends. -/
def dcd : Nat → List T4 → List Int → Nat → Put × Int
  | 0, _, _, _ => (⟨0, 0, []⟩, -1)
  | f + 1, xs, ds, k =>
    if k < ds.length ∧ btw (ds.getD k 0) 1 7 = true then
      if kids (ds.getD k 0) = 0 then
        (if k + 3 ≤ ds.length ∧ ds.getD (k + 1) 0 * 256 + ds.getD (k + 2) 0 ≤ 9999 then (put xs ⟨ds.getD k 0, 0, 0, ds.getD (k + 1) 0 * 256 + ds.getD (k + 2) 0⟩, (k + 3 : Nat)) else (⟨0, 0, []⟩, -1))
      else if (dcd f xs ds (k + 1)).2 < 0 ∨ (dcd f xs ds (k + 1)).1.c ≠ 0 then dcd f xs ds (k + 1)
      else if kids (ds.getD k 0) = 1 then
        (if (tmAt (dcd f xs ds (k + 1)).1.l (dcd f xs ds (k + 1)).1.k).o = 2 then (put (dcd f xs ds (k + 1)).1.l ⟨ds.getD k 0, (dcd f xs ds (k + 1)).1.k, 0, 0⟩, (dcd f xs ds (k + 1)).2) else (⟨0, 0, []⟩, -1))
      else if (dcd f (dcd f xs ds (k + 1)).1.l ds (dcd f xs ds (k + 1)).2.toNat).2 < 0 ∨ (dcd f (dcd f xs ds (k + 1)).1.l ds (dcd f xs ds (k + 1)).2.toNat).1.c ≠ 0 then dcd f (dcd f xs ds (k + 1)).1.l ds (dcd f xs ds (k + 1)).2.toNat
      else if ds.getD k 0 = 7 ∧ ¬ ((tmAt (dcd f (dcd f xs ds (k + 1)).1.l ds (dcd f xs ds (k + 1)).2.toNat).1.l (dcd f xs ds (k + 1)).1.k).o = 2 ∧ (tmAt (dcd f (dcd f xs ds (k + 1)).1.l ds (dcd f xs ds (k + 1)).2.toNat).1.l (dcd f (dcd f xs ds (k + 1)).1.l ds (dcd f xs ds (k + 1)).2.toNat).1.k).o = 2
          ∧ (tmAt (dcd f (dcd f xs ds (k + 1)).1.l ds (dcd f xs ds (k + 1)).2.toNat).1.l (dcd f xs ds (k + 1)).1.k).n ≤ (tmAt (dcd f (dcd f xs ds (k + 1)).1.l ds (dcd f xs ds (k + 1)).2.toNat).1.l (dcd f (dcd f xs ds (k + 1)).1.l ds (dcd f xs ds (k + 1)).2.toNat).1.k).n) then (⟨0, 0, []⟩, -1)
      else (put (dcd f (dcd f xs ds (k + 1)).1.l ds (dcd f xs ds (k + 1)).2.toNat).1.l (if ds.getD k 0 = 7 then bothT (dcd f xs ds (k + 1)).1.k (dcd f (dcd f xs ds (k + 1)).1.l ds (dcd f xs ds (k + 1)).2.toNat).1.k else ⟨ds.getD k 0, (dcd f xs ds (k + 1)).1.k, (dcd f (dcd f xs ds (k + 1)).1.l ds (dcd f xs ds (k + 1)).2.toNat).1.k, 0⟩), (dcd f (dcd f xs ds (k + 1)).1.l ds (dcd f xs ds (k + 1)).2.toNat).2)
    else (⟨0, 0, []⟩, -1)

/-- What the model reads: nothing, or the term that stands there, put; a code if the table is full. -/
theorem dcd_ways : ∀ (f : Nat) (xs : List T4) (ds : List Int) (k : Nat), (∀ x ∈ ds, 0 ≤ x ∧ x < 256) → tfC xs = 0 →
    (prs f ds k = none ∧ ((dcd f xs ds k).2 < 0 ∨ ((dcd f xs ds k).1.c = 2 ∧ 400 + k < xs.length + ds.length)))
    ∨ (∃ t e, prs f ds k = some (t, e) ∧ (dcd f xs ds k).1 = ptr xs t ∧ 0 ≤ (dcd f xs ds k).2 ∧ ((ptr xs t).c = 0 → (dcd f xs ds k).2 = (e : Nat))) := by
  intro f
  induction f with
  | zero => intro xs ds k _ _; exact .inl ⟨rfl, .inl (by simp [dcd])⟩
  | succ f ih =>
    intro xs ds k hb h
    rw [prs, dcd]
    by_cases c1 : k < ds.length ∧ btw (ds.getD k 0) 1 7 = true
    · rw [if_pos c1, if_pos c1]
      by_cases c2 : kids (ds.getD k 0) = 0
      · rw [if_pos c2, if_pos c2]
        by_cases c3 : k + 3 ≤ ds.length ∧ ds.getD (k + 1) 0 * 256 + ds.getD (k + 2) 0 ≤ 9999
        · rw [if_pos c3, if_pos c3]
          exact .inr ⟨_, _, rfl, by rw [ptr], by dsimp only; omega, fun _ => rfl⟩
        · rw [if_neg c3, if_neg c3]
          exact .inl ⟨rfl, .inl (by dsimp only; omega)⟩
      · rw [if_neg c2, if_neg c2]
        have H1 := ih xs ds (k + 1) hb h
        have P1 := fun t e => prs_enc f ds (k + 1) t e hb
        generalize hA : dcd f xs ds (k + 1) = A at *
        clear hA
        rcases H1 with ⟨e1, h1⟩ | ⟨x, e1, hx, hA1, hA2, hA3⟩
        · rw [e1]
          refine .inl ⟨rfl, ?_⟩
          rw [if_pos (by omega)]
          omega
        · obtain ⟨w1, d1, l1, l1', r1⟩ := P1 x e1 hx
          rw [hx]
          dsimp only
          obtain ⟨A1, A2⟩ := A
          dsimp only at *
          subst hA1
          have lx : x.enc.length ≤ ds.length - (k + 1) := by omega
          rcases ptr_ways x xs h w1 with ⟨hp, hl⟩ | ⟨hc, C⟩
          · rw [if_pos (show A2 < 0 ∨ (ptr xs x).c ≠ 0 from .inr (by rw [hp]; decide))]
            try dsimp only
            have hc2 : (ptr xs x).c = 2 := by rw [hp]
            by_cases c4 : kids (ds.getD k 0) = 1
            · rw [if_pos c4]
              by_cases c5 : x.op = 2
              · rw [if_pos c5]
                refine .inr ⟨_, _, rfl, ?_, hA2, fun hc => ?_⟩
                · rw [ptr]; (try dsimp only); rw [if_neg (by omega)]
                · rw [ptr] at hc; (try dsimp only at hc); rw [if_neg (by omega)] at hc; omega
              · rw [if_neg c5]
                exact .inl ⟨rfl, .inr ⟨hc2, by omega⟩⟩
            · rw [if_neg c4]
              cases hy : prs f ds e1 with
              | none => exact .inl ⟨rfl, .inr ⟨hc2, by omega⟩⟩
              | some ye =>
                obtain ⟨y, e2⟩ := ye
                dsimp only
                split
                · exact .inl ⟨rfl, .inr ⟨hc2, by omega⟩⟩
                · refine .inr ⟨_, _, rfl, ?_, hA2, fun hc => ?_⟩
                  · rw [ptr]; dsimp only; rw [if_neg (by omega)]
                  · rw [ptr] at hc; dsimp only at hc; rw [if_neg (by omega)] at hc; omega
          · have hA3 := hA3 hc
            subst hA3
            rw [if_neg (show ¬ (((e1 : Nat) : Int) < 0 ∨ (ptr xs x).c ≠ 0) from by rintro (e | e) <;> omega)]
            try dsimp only
            have CF : (tmAt (ptr xs x).l (ptr xs x).k).o = x.op := by
              have hk : (ptr xs x).k.toNat < (ptr xs x).l.length := by have := C.k0; have := C.k1; omega
              have := den_op _ hk (tfC_ahead C.right)
              rw [C.den] at this
              unfold tmAt; exact this.symm
            by_cases c4 : kids (ds.getD k 0) = 1
            · rw [if_pos c4, if_pos c4, CF]
              by_cases c5 : x.op = 2
              · rw [if_pos c5, if_pos c5]
                refine .inr ⟨_, _, rfl, ?_, hA2, fun _ => rfl⟩
                rw [ptr]; dsimp only; rw [if_pos hc]
              · rw [if_neg c5, if_neg c5]
                exact .inl ⟨rfl, .inl (by dsimp only; omega)⟩
            · rw [if_neg c4, if_neg c4]
              have H2 := ih (ptr xs x).l ds e1 hb C.right
              have P2 := fun t e => prs_enc f ds e1 t e hb
              rw [Int.toNat_natCast]
              generalize hB : dcd f (ptr xs x).l ds e1 = B at *
              clear hB
              have L := C.len
              rcases H2 with ⟨e2, h2⟩ | ⟨y, e2, hy, hB1, hB2, hB3⟩
              · rw [e2]
                dsimp only
                refine .inl ⟨rfl, ?_⟩
                rw [if_pos (by omega)]
                omega
              · obtain ⟨w2, d2, l2, l2', r2⟩ := P2 y e2 hy
                rw [hy]
                dsimp only
                obtain ⟨B1, B2⟩ := B
                dsimp only at *
                subst hB1
                rcases ptr_ways y _ C.right w2 with ⟨hp, hl⟩ | ⟨hc2, D⟩
                · have hc3 : (ptr (ptr xs x).l y).c = 2 := by rw [hp]
                  rw [if_pos (show B2 < 0 ∨ (ptr (ptr xs x).l y).c ≠ 0 from .inr (by omega))]
                  split
                  · exact .inl ⟨rfl, .inr ⟨hc3, by omega⟩⟩
                  · refine .inr ⟨_, _, rfl, ?_, hB2, fun hz => ?_⟩
                    · rw [ptr]; dsimp only; rw [if_pos hc, if_neg (by omega)]
                    · rw [ptr] at hz; dsimp only at hz; rw [if_pos hc, if_neg (by omega)] at hz; omega
                · have hB3 := hB3 hc2
                  subst hB3
                  rw [if_neg (show ¬ (((e2 : Nat) : Int) < 0 ∨ (ptr (ptr xs x).l y).c ≠ 0) from by rintro (e | e) <;> omega)]
                  obtain ⟨zs, hz⟩ := D.pre
                  have DF : (tmAt (ptr (ptr xs x).l y).l (ptr (ptr xs x).l y).k).o = y.op := by
                    have hk : (ptr (ptr xs x).l y).k.toNat < (ptr (ptr xs x).l y).l.length := by have := D.k0; have := D.k1; omega
                    have := den_op _ hk (tfC_ahead D.right)
                    rw [D.den] at this
                    unfold tmAt; exact this.symm
                  have ht : tmAt (ptr (ptr xs x).l y).l (ptr xs x).k = tmAt (ptr xs x).l (ptr xs x).k := by rw [hz, tmAt_app _ _ _ C.k0 C.k1]
                  have same : (ds.getD k 0 = 7 ∧ ¬ ((tmAt (ptr (ptr xs x).l y).l (ptr xs x).k).o = 2 ∧ (tmAt (ptr (ptr xs x).l y).l (ptr (ptr xs x).l y).k).o = 2 ∧ (tmAt (ptr (ptr xs x).l y).l (ptr xs x).k).n ≤ (tmAt (ptr (ptr xs x).l y).l (ptr (ptr xs x).l y).k).n))
                      ↔ (ds.getD k 0 = 7 ∧ ¬ (x.op = 2 ∧ y.op = 2 ∧ x.num ≤ y.num)) := by
                    rw [ht, CF, DF]
                    by_cases hx2 : x.op = 2
                    · by_cases hy2 : y.op = 2
                      · rw [(C.fresh hx2).2, (D.fresh hy2).2]
                      · simp [hy2]
                    · simp [hx2]
                  by_cases c7 : ds.getD k 0 = 7 ∧ ¬ (x.op = 2 ∧ y.op = 2 ∧ x.num ≤ y.num)
                  · rw [if_pos (same.2 c7), if_pos c7]
                    exact .inl ⟨rfl, .inl (by dsimp only; omega)⟩
                  · rw [if_neg (fun hh => c7 (same.1 hh)), if_neg c7]
                    refine .inr ⟨_, _, rfl, ?_, hB2, fun _ => rfl⟩
                    rw [ptr]; dsimp only; rw [if_pos hc, if_pos hc2]
    · rw [if_neg c1, if_neg c1]
      exact .inl ⟨rfl, .inl (by dsimp only; omega)⟩

/-- The code of a term as bytes. -/
@[irreducible] def enC (xs : List T4) (q : Int) : Int := if akC xs q = 0 then (if 30 < (den xs q.toNat).dp ∨ 200 < (den xs q.toNat).sz ∨ 400 < (den xs q.toNat).enc.length then 2 else 0) else akC xs q

/-- The bytes beside it. -/
@[irreducible] def enB (xs : List T4) (q : Int) : List Int := if enC xs q = 0 then (den xs q.toNat).enc else []

theorem en_ways (xs : List T4) (q : Int) : (akC xs q ≠ 0 ∧ enC xs q = akC xs q ∧ enB xs q = [])
    ∨ (akC xs q = 0 ∧ (30 < (den xs q.toNat).dp ∨ 200 < (den xs q.toNat).sz) ∧ enC xs q = 2 ∧ enB xs q = [])
    ∨ (akC xs q = 0 ∧ (den xs q.toNat).dp ≤ 30 ∧ (den xs q.toNat).sz ≤ 200 ∧ 400 < (den xs q.toNat).enc.length ∧ enC xs q = 2 ∧ enB xs q = [])
    ∨ (akC xs q = 0 ∧ (den xs q.toNat).dp ≤ 30 ∧ (den xs q.toNat).sz ≤ 200 ∧ (den xs q.toNat).enc.length ≤ 400 ∧ enC xs q = 0 ∧ enB xs q = (den xs q.toNat).enc) := by
  by_cases h : akC xs q = 0
  · by_cases h1 : 30 < (den xs q.toNat).dp ∨ 200 < (den xs q.toNat).sz
    · have e : enC xs q = 2 := by unfold enC; rw [if_pos h, if_pos (by omega)]
      exact .inr (.inl ⟨h, h1, e, by unfold enB; rw [e]; rfl⟩)
    · by_cases h2 : 400 < (den xs q.toNat).enc.length
      · have e : enC xs q = 2 := by unfold enC; rw [if_pos h, if_pos (by omega)]
        exact .inr (.inr (.inl ⟨h, by omega, by omega, h2, e, by unfold enB; rw [e]; rfl⟩))
      · have e : enC xs q = 0 := by unfold enC; rw [if_pos h, if_neg (by omega)]
        exact .inr (.inr (.inr ⟨h, by omega, by omega, by omega, e, by unfold enB; rw [if_pos e]⟩))
  · have e : enC xs q = akC xs q := by unfold enC; rw [if_neg h]
    exact .inl ⟨h, e, by unfold enB; rw [if_neg (by omega)]⟩

/-- What is read of bytes into a table. -/
@[irreducible] def deT (xs : List T4) (ds : List Int) : Put :=
  if tfC xs = 0 then (if 400 < ds.length then ⟨2, 0, []⟩ else match whole ds with | none => ⟨5, 0, []⟩ | some t => ptr xs t) else ⟨tfC xs, 0, []⟩

theorem de_ways (xs : List T4) (ds : List Int) : (tfC xs ≠ 0 ∧ deT xs ds = ⟨tfC xs, 0, []⟩) ∨ (tfC xs = 0 ∧ 400 < ds.length ∧ deT xs ds = ⟨2, 0, []⟩)
    ∨ (tfC xs = 0 ∧ ds.length ≤ 400 ∧ whole ds = none ∧ deT xs ds = ⟨5, 0, []⟩) ∨ (∃ t, tfC xs = 0 ∧ ds.length ≤ 400 ∧ whole ds = some t ∧ deT xs ds = ptr xs t) := by
  by_cases h : tfC xs = 0
  · by_cases h1 : 400 < ds.length
    · exact .inr (.inl ⟨h, h1, by unfold deT; rw [if_pos h, if_pos h1]⟩)
    · cases hw : whole ds with
      | none => exact .inr (.inr (.inl ⟨h, by omega, rfl, by unfold deT; rw [if_pos h, if_neg h1, hw]⟩))
      | some t => exact .inr (.inr (.inr ⟨t, h, by omega, rfl, by unfold deT; rw [if_pos h, if_neg h1, hw]⟩))
  · exact .inl ⟨h, by unfold deT; rw [if_neg h]⟩

/-- The model's first reading, into an empty table, tells whether bytes are of a term. -/
theorem dcd_whole {ds : List Int} (hb : ∀ x ∈ ds, 0 ≤ x ∧ x < 256) (hl : ds.length ≤ 400) :
    (whole ds = none ∧ ((dcd 30 [] ds 0).2 ≠ (ds.length : Int) ∨ ((dcd 30 [] ds 0).2 = (ds.length : Int) ∧ (dcd 30 [] ds 0).1.c = 0 ∧ ∃ t, Came [] t (dcd 30 [] ds 0).1 ∧ 200 < t.sz)))
    ∨ (∃ t, whole ds = some t ∧ (dcd 30 [] ds 0).2 = (ds.length : Int) ∧ (dcd 30 [] ds 0).1.c = 0 ∧ Came [] t (dcd 30 [] ds 0).1 ∧ t.sz ≤ 200) := by
  have h0 : tfC ([] : List T4) = 0 := by unfold tfC; simp [tfF]
  have hw : whole ds = match prs 30 ds 0 with | none => none | some (t, e) => if e = ds.length ∧ t.sz ≤ 200 then some t else none := rfl
  rcases dcd_ways 30 [] ds 0 hb h0 with ⟨e, h⟩ | ⟨t, e, he, h1, h2, h3⟩
  · rw [e] at hw
    refine .inl ⟨hw, .inl ?_⟩
    simp at h
    omega
  · obtain ⟨w, d, l, l', r⟩ := prs_enc _ _ _ _ _ hb he
    have hp : (ptr [] t).c = 0 ∧ Came [] t (ptr [] t) := by
      rcases ptr_ways t [] h0 w with ⟨_, hh⟩ | hh
      · simp at hh; omega
      · exact hh
    have h3 := h3 hp.1
    rw [he] at hw
    dsimp only at hw
    rw [h3, h1]
    by_cases c1 : e = ds.length
    · by_cases c2 : t.sz ≤ 200
      · rw [if_pos ⟨c1, c2⟩] at hw
        exact .inr ⟨t, hw, by omega, hp.1, hp.2, c2⟩
      · rw [if_neg (fun hh => c2 hh.2)] at hw
        exact .inl ⟨hw, .inr ⟨by omega, hp.1, t, hp.2, by omega⟩⟩
    · rw [if_neg (fun hh => c1 hh.1)] at hw
      exact .inl ⟨hw, .inl (by omega)⟩

/-- .. and its second puts it. -/
theorem dcd_puts {xs : List T4} {ds : List Int} {t : Tr} (hb : ∀ x ∈ ds, 0 ≤ x ∧ x < 256) (h : tfC xs = 0) (hw : whole ds = some t) : (dcd 30 xs ds 0).1 = ptr xs t := by
  have hw2 : whole ds = match prs 30 ds 0 with | none => none | some (t, e) => if e = ds.length ∧ t.sz ≤ 200 then some t else none := rfl
  rcases dcd_ways 30 xs ds 0 hb h with ⟨e, _⟩ | ⟨t', e, he, h1, h2, h3⟩
  · rw [e] at hw2; rw [hw2] at hw; cases hw
  · rw [he] at hw2
    dsimp only at hw2
    rw [hw2] at hw
    split at hw
    · simp only [Option.some.injEq] at hw; subst hw; exact h1
    · cases hw

/-- What is read is written back. -/
theorem wire_back {xs : List T4} {ds : List Int} (hb : ∀ x ∈ ds, 0 ≤ x ∧ x < 256) (hc : (deT xs ds).c = 0) : enC (deT xs ds).l (deT xs ds).k = 0 ∧ enB (deT xs ds).l (deT xs ds).k = ds := by
  rcases de_ways xs ds with ⟨h, e⟩ | ⟨_, _, e⟩ | ⟨_, _, _, e⟩ | ⟨t, h, hl, hw, e⟩
  · rw [e] at hc; exact absurd hc h
  · rw [e] at hc; simp at hc
  · rw [e] at hc; simp at hc
  · obtain ⟨w, d, s, rfl⟩ := (whole_iff hb t).1 hw
    rw [e] at hc ⊢
    have C : Came xs t (ptr xs t) := by
      rcases ptr_ways t xs h w with ⟨e2, _⟩ | ⟨_, C⟩
      · rw [e2] at hc; simp at hc
      · exact C
    have ha : akC (ptr xs t).l (ptr xs t).k = 0 := by
      have := C.k0
      have := C.k1
      rcases ak_ways (ptr xs t).l (ptr xs t).k with ⟨h1, _⟩ | ⟨_, h1, _⟩ | ⟨_, _, h1⟩
      · exact absurd C.right h1
      · have : btw (ptr xs t).k 0 ((ptr xs t).l.length - 1) = true := btw_iff.2 (by omega)
        rw [h1] at this; cases this
      · exact h1
    rcases en_ways (ptr xs t).l (ptr xs t).k with ⟨h1, _⟩ | ⟨_, h1, _⟩ | ⟨_, _, _, h1, _⟩ | ⟨_, _, _, _, h1, h2⟩
    · exact absurd ha h1
    · rw [C.den] at h1; omega
    · rw [C.den] at h1; omega
    · exact ⟨h1, by rw [h2, C.den]⟩

/-- What is written is read. -/
theorem wire_there {xs : List T4} {q : Int} (hc : enC xs q = 0) : (deT [] (enB xs q)).c = 0 ∧ Came [] (den xs q.toNat) (deT [] (enB xs q)) ∧ tfC xs = 0 ∧ 0 ≤ q ∧ q < xs.length := by
  have h0 : tfC ([] : List T4) = 0 := by unfold tfC; simp [tfF]
  rcases en_ways xs q with ⟨h, e, _⟩ | ⟨_, _, e, _⟩ | ⟨_, _, _, _, e, _⟩ | ⟨h, d, s, l, _, e⟩
  · exact absurd (e ▸ hc) h
  · omega
  · omega
  · obtain ⟨a1, a2, a3⟩ := ak_zero h
    have w := den_wf a1 q.toNat q.toNat (Nat.le_refl _) (by omega)
    rw [e]
    generalize den xs q.toNat = t at *
    have hw : whole t.enc = some t := (whole_iff (enc_byte w) t).2 ⟨w, d, s, rfl⟩
    rcases de_ways [] t.enc with ⟨h1, _⟩ | ⟨_, h1, _⟩ | ⟨_, _, h1, _⟩ | ⟨t', _, _, h1, h2⟩
    · exact absurd h0 h1
    · omega
    · rw [hw] at h1; cases h1
    · rw [hw] at h1
      simp only [Option.some.injEq] at h1
      subst h1
      rw [h2]
      rcases ptr_ways t [] h0 w with ⟨_, hh⟩ | hh
      · simp at hh; omega
      · exact ⟨hh.1, hh.2, a1, a2, a3⟩

end Go.Proofs.YtfldgeokigcokaaGreat

/- Terms as bytes: the ways of one step of the model's reading. -/
namespace Go.Proofs.YtfldgeokigcokaaGreat
open Go.RowKit

/-- What has been read well. -/
structure Well (ds : List Int) (A : Put × Int) : Prop where
  c : A.1.c = 0
  right : tfC A.1.l = 0
  k0 : 0 ≤ A.1.k
  k1 : A.1.k < A.1.l.length
  e0 : 0 ≤ A.2
  e1 : A.2 ≤ ds.length

theorem dcd_well {f : Nat} {xs : List T4} {ds : List Int} {k : Nat} (hb : ∀ x ∈ ds, 0 ≤ x ∧ x < 256) (h : tfC xs = 0) (h2 : ¬ (dcd f xs ds k).2 < 0) (hc : (dcd f xs ds k).1.c = 0) : Well ds (dcd f xs ds k) := by
  rcases dcd_ways f xs ds k hb h with ⟨_, h3⟩ | ⟨t, e, he, h3, h4, h5⟩
  · omega
  · rw [h3] at hc
    have h5 := h5 hc
    obtain ⟨w, _, l1, l2, _⟩ := prs_enc _ _ _ _ _ hb he
    have C : Came xs t (ptr xs t) := by
      rcases ptr_ways t xs h w with ⟨e2, _⟩ | ⟨_, C⟩
      · rw [e2] at hc; simp at hc
      · exact C
    exact ⟨by rw [h3]; exact hc, by rw [h3]; exact C.right, by rw [h3]; exact C.k0, by rw [h3]; exact C.k1, by omega, by omega⟩

/-- The ways of one step of the model's reading. -/
theorem dcd_paths (f : Nat) (xs : List T4) (ds : List Int) (k : Nat) (hb : ∀ x ∈ ds, 0 ≤ x ∧ x < 256) (h : tfC xs = 0) (o nn : Int) (ho : ds.getD k 0 = o) (hnn : ds.getD (k + 1) 0 * 256 + ds.getD (k + 2) 0 = nn) (A B D : Put × Int) (hA : dcd f xs ds (k + 1) = A) (hB : dcd f A.1.l ds A.2.toNat = B) (hD : dcd (f + 1) xs ds k = D) :
    (ds.length ≤ k ∧ D = (⟨0, 0, []⟩, -1))
    ∨ (k < ds.length ∧ btw o 1 7 = false ∧ D = (⟨0, 0, []⟩, -1))
    ∨ (k < ds.length ∧ (o = 1 ∨ o = 2) ∧ ds.length < k + 3 ∧ D = (⟨0, 0, []⟩, -1))
    ∨ (k + 3 ≤ ds.length ∧ (o = 1 ∨ o = 2) ∧ 9999 < nn ∧ D = (⟨0, 0, []⟩, -1))
    ∨ (k + 3 ≤ ds.length ∧ (o = 1 ∨ o = 2) ∧ (0 ≤ nn ∧ nn ≤ 9999) ∧ D = (put xs ⟨o, 0, 0, nn⟩, (k : Int) + 3))
    ∨ (k < ds.length ∧ (o = 3 ∨ o = 4 ∨ o = 5 ∨ o = 6 ∨ o = 7) ∧ A.2 < 0 ∧ D = A)
    ∨ (k < ds.length ∧ (o = 3 ∨ o = 4 ∨ o = 5 ∨ o = 6 ∨ o = 7) ∧ 0 ≤ A.2 ∧ A.1.c ≠ 0 ∧ D = A)
    ∨ (k < ds.length ∧ Well ds A ∧ o = 6 ∧ (tmAt A.1.l A.1.k).o ≠ 2 ∧ D = (⟨0, 0, []⟩, -1))
    ∨ (k < ds.length ∧ Well ds A ∧ o = 6 ∧ (tmAt A.1.l A.1.k).o = 2 ∧ D = (put A.1.l ⟨6, A.1.k, 0, 0⟩, A.2))
    ∨ (k < ds.length ∧ Well ds A ∧ (o = 3 ∨ o = 4 ∨ o = 5 ∨ o = 7) ∧ B.2 < 0 ∧ D = B)
    ∨ (k < ds.length ∧ Well ds A ∧ (o = 3 ∨ o = 4 ∨ o = 5 ∨ o = 7) ∧ 0 ≤ B.2 ∧ B.1.c ≠ 0 ∧ D = B)
    ∨ (k < ds.length ∧ Well ds A ∧ Well ds B ∧ A.1.k < B.1.l.length ∧ (o = 3 ∨ o = 4 ∨ o = 5) ∧ D = (put B.1.l ⟨o, A.1.k, B.1.k, 0⟩, B.2))
    ∨ (k < ds.length ∧ Well ds A ∧ Well ds B ∧ A.1.k < B.1.l.length ∧ o = 7 ∧ (tmAt B.1.l A.1.k).o ≠ 2 ∧ D = (⟨0, 0, []⟩, -1))
    ∨ (k < ds.length ∧ Well ds A ∧ Well ds B ∧ A.1.k < B.1.l.length ∧ o = 7 ∧ (tmAt B.1.l A.1.k).o = 2 ∧ (tmAt B.1.l B.1.k).o ≠ 2 ∧ D = (⟨0, 0, []⟩, -1))
    ∨ (k < ds.length ∧ Well ds A ∧ Well ds B ∧ A.1.k < B.1.l.length ∧ o = 7 ∧ (tmAt B.1.l A.1.k).o = 2 ∧ (tmAt B.1.l B.1.k).o = 2 ∧ (tmAt B.1.l B.1.k).n < (tmAt B.1.l A.1.k).n ∧ D = (⟨0, 0, []⟩, -1))
    ∨ (k < ds.length ∧ Well ds A ∧ Well ds B ∧ A.1.k < B.1.l.length ∧ o = 7 ∧ (tmAt B.1.l A.1.k).o = 2 ∧ (tmAt B.1.l B.1.k).o = 2 ∧ (tmAt B.1.l A.1.k).n ≤ (tmAt B.1.l B.1.k).n ∧ D = (put B.1.l (bothT A.1.k B.1.k), B.2)) := by
  have WA : ¬ A.2 < 0 → A.1.c = 0 → Well ds A := fun h2 hc => by subst hA; exact dcd_well hb h h2 hc
  have WB : Well ds A → ¬ B.2 < 0 → B.1.c = 0 → Well ds B := fun w h2 hc => by subst hB; exact dcd_well hb w.right h2 hc
  have LB : Well ds A → Well ds B → A.1.k < B.1.l.length := fun w1 w2 => by
    have hp : ∃ ys, B.1.l = A.1.l ++ ys := by
      rcases dcd_ways f A.1.l ds A.2.toNat hb w1.right with ⟨_, h3⟩ | ⟨t, e, he, h3, _, _⟩
      · rw [hB] at h3; have := w2.e0; have := w2.c; omega
      · rw [hB] at h3
        obtain ⟨w, _, _, _, _⟩ := prs_enc _ _ _ _ _ hb he
        rcases ptr_ways t A.1.l w1.right w with ⟨e2, _⟩ | ⟨_, C⟩
        · have := w2.c; rw [h3, e2] at this; simp at this
        · rw [h3]; exact C.pre
    obtain ⟨ys, hy⟩ := hp
    have := w1.k1
    rw [hy, List.length_append]; omega
  have byte : ∀ i, 0 ≤ ds.getD i 0 := fun i => by
    by_cases hi : i < ds.length
    · have : ds.getD i 0 ∈ ds := by simp [List.getD, hi]
      exact (hb _ this).1
    · simp [List.getD, List.getElem?_eq_none (Nat.le_of_not_lt hi)]
  have hn0 : 0 ≤ nn := by have := byte (k + 1); have := byte (k + 2); omega
  rw [dcd, ho, hnn, hA, hB] at hD
  by_cases c1 : k < ds.length ∧ btw o 1 7 = true
  · rw [if_pos c1] at hD
    have hob := btw_iff.1 c1.2
    have c0 := c1.1
    by_cases c2 : kids o = 0
    · have ho2 : o = 1 ∨ o = 2 := by rcases kids_ways o with ⟨_, e⟩ | ⟨_, e⟩ | ⟨_, e⟩ | ⟨_, e⟩ | ⟨_, e⟩ | ⟨_, _, _, _, _, _⟩ <;> omega
      rw [if_pos c2] at hD
      by_cases c3 : k + 3 ≤ ds.length ∧ nn ≤ 9999
      · rw [if_pos c3] at hD
        exact .inr (.inr (.inr (.inr (.inl ⟨c3.1, ho2, ⟨hn0, c3.2⟩, by rw [← hD]; simp⟩))))
      · rw [if_neg c3] at hD
        by_cases c4 : k + 3 ≤ ds.length
        · exact .inr (.inr (.inr (.inl ⟨c4, ho2, by omega, hD.symm⟩)))
        · exact .inr (.inr (.inl ⟨c0, ho2, by omega, hD.symm⟩))
    · rw [if_neg c2] at hD
      have ho2 : o = 3 ∨ o = 4 ∨ o = 5 ∨ o = 6 ∨ o = 7 := by rcases kids_ways o with ⟨_, e⟩ | ⟨_, e⟩ | ⟨_, e⟩ | ⟨_, e⟩ | ⟨_, e⟩ | ⟨_, _, _, _, _, e⟩ <;> omega
      by_cases c3 : A.2 < 0
      · rw [if_pos (.inl c3)] at hD
        exact .inr (.inr (.inr (.inr (.inr (.inl ⟨c0, ho2, c3, hD.symm⟩)))))
      by_cases c4 : A.1.c = 0
      case neg =>
        rw [if_pos (.inr c4)] at hD
        exact .inr (.inr (.inr (.inr (.inr (.inr (.inl ⟨c0, ho2, by omega, c4, hD.symm⟩))))))
      rw [if_neg (fun hh => hh.elim c3 (fun e => e c4))] at hD
      have W1 := WA c3 c4
      by_cases c5 : kids o = 1
      · rw [if_pos c5] at hD
        have h6 := kids_one c5
        by_cases c6 : (tmAt A.1.l A.1.k).o = 2
        · rw [if_pos c6, h6] at hD
          exact .inr (.inr (.inr (.inr (.inr (.inr (.inr (.inr (.inl ⟨c0, W1, h6, c6, hD.symm⟩))))))))
        · rw [if_neg c6] at hD
          exact .inr (.inr (.inr (.inr (.inr (.inr (.inr (.inl ⟨c0, W1, h6, c6, hD.symm⟩)))))))
      · rw [if_neg c5] at hD
        have k6 := kids6
        have ho3 : o = 3 ∨ o = 4 ∨ o = 5 ∨ o = 7 := by
          rcases ho2 with e | e | e | e | e
          · exact .inl e
          · exact .inr (.inl e)
          · exact .inr (.inr (.inl e))
          · rw [e] at c5; exact absurd k6 c5
          · exact .inr (.inr (.inr e))
        by_cases c6 : B.2 < 0
        · rw [if_pos (.inl c6)] at hD
          exact .inr (.inr (.inr (.inr (.inr (.inr (.inr (.inr (.inr (.inl ⟨c0, W1, ho3, c6, hD.symm⟩)))))))))
        by_cases c7 : B.1.c = 0
        case neg =>
          rw [if_pos (.inr c7)] at hD
          exact .inr (.inr (.inr (.inr (.inr (.inr (.inr (.inr (.inr (.inr (.inl ⟨c0, W1, ho3, by omega, c7, hD.symm⟩))))))))))
        rw [if_neg (fun hh => hh.elim c6 (fun e => e c7))] at hD
        have W2 := WB W1 c6 c7
        have L2 := LB W1 W2
        by_cases c8 : o = 7
        · rw [if_pos c8] at hD
          by_cases g1 : (tmAt B.1.l A.1.k).o = 2
          · by_cases g2 : (tmAt B.1.l B.1.k).o = 2
            · by_cases g3 : (tmAt B.1.l A.1.k).n ≤ (tmAt B.1.l B.1.k).n
              · rw [if_neg (fun hh => hh.2 ⟨g1, g2, g3⟩)] at hD
                exact .inr (.inr (.inr (.inr (.inr (.inr (.inr (.inr (.inr (.inr (.inr (.inr (.inr (.inr (.inr ⟨c0, W1, W2, L2, c8, g1, g2, g3, hD.symm⟩))))))))))))))
              · rw [if_pos ⟨c8, fun hh => g3 hh.2.2⟩] at hD
                exact .inr (.inr (.inr (.inr (.inr (.inr (.inr (.inr (.inr (.inr (.inr (.inr (.inr (.inr (.inl ⟨c0, W1, W2, L2, c8, g1, g2, by omega, hD.symm⟩))))))))))))))
            · rw [if_pos ⟨c8, fun hh => g2 hh.2.1⟩] at hD
              exact .inr (.inr (.inr (.inr (.inr (.inr (.inr (.inr (.inr (.inr (.inr (.inr (.inr (.inl ⟨c0, W1, W2, L2, c8, g1, g2, hD.symm⟩)))))))))))))
          · rw [if_pos ⟨c8, fun hh => g1 hh.1⟩] at hD
            exact .inr (.inr (.inr (.inr (.inr (.inr (.inr (.inr (.inr (.inr (.inr (.inr (.inl ⟨c0, W1, W2, L2, c8, g1, hD.symm⟩))))))))))))
        · rw [if_neg (fun hh => c8 hh.1), if_neg c8] at hD
          exact .inr (.inr (.inr (.inr (.inr (.inr (.inr (.inr (.inr (.inr (.inr (.inl ⟨c0, W1, W2, L2, by omega, hD.symm⟩)))))))))))
  · rw [if_neg c1] at hD
    by_cases c2 : k < ds.length
    · refine .inr (.inl ⟨c2, ?_, hD.symm⟩)
      cases hb2 : btw o 1 7 with
      | false => rfl
      | true => exact absurd ⟨c2, hb2⟩ c1
    · exact .inl ⟨by omega, hD.symm⟩

end Go.Proofs.YtfldgeokigcokaaGreat
