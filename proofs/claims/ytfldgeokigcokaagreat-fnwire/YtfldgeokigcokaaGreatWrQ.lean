/- The program's way of reading bytes. -/
import Derived.Test.YtfldgeokigcokaaGreatWrP
namespace Go.Proofs.YtfldgeokigcokaaGreat
open Go.RowKit

/-- The program's way of reading: what is put, and what is left. -/
def rdP (xs : List T4) (T : T4) (r : List Int) : Option (Put × List Int) := if (put xs T).c = 0 then some (put xs T, r) else none

def rd1 : Nat → List T4 → List Int → Option (Put × List Int)
  | 0, _, _ => none
  | _ + 1, _, [] => none
  | f + 1, xs, o :: r =>
    if o = 1 ∨ o = 2 then (if 2 ≤ r.length then rdP xs ⟨o, 0, 0, r.getD 0 0 * 256 + r.getD 1 0⟩ (r.drop 2) else none)
    else if o = 6 then
      match rd1 f xs r with
      | none => none
      | some A => rdP A.1.l ⟨6, A.1.k, 0, 0⟩ A.2
    else if o = 3 ∨ o = 4 ∨ o = 5 ∨ o = 7 then
      match rd1 f xs r with
      | none => none
      | some A =>
        match rd1 f A.1.l A.2 with
        | none => none
        | some D => rdP D.1.l (if o = 7 then bothT A.1.k D.1.k else ⟨o, A.1.k, D.1.k, 0⟩) D.2
    else none

/-- What a reading leaves. -/
structure Rdg (xs : List T4) (ds : List Int) (A : Put × List Int) : Prop where
  c : A.1.c = 0
  right : tfC A.1.l = 0
  k0 : 0 ≤ A.1.k
  k1 : A.1.k < A.1.l.length
  pre : ∃ ys, A.1.l = xs ++ ys
  rest : ∃ n, 0 < n ∧ n ≤ ds.length ∧ A.2 = ds.drop n

theorem rdP_ok {xs : List T4} {T : T4} {r : List Int} {A : Put × List Int} (h : tfC xs = 0) (e : rdP xs T r = some A) : A = (put xs T, r) ∧ (put xs T).c = 0 ∧ tfC (put xs T).l = 0 ∧ 0 ≤ (put xs T).k ∧ (put xs T).k < (put xs T).l.length ∧ ∃ ys, (put xs T).l = xs ++ ys := by
  unfold rdP at e
  split at e
  · rename_i hc
    simp only [Option.some.injEq] at e
    obtain ⟨p1, p2, p3, p4, _⟩ := put_right h hc
    exact ⟨e.symm, hc, p1, p3, p4, p2⟩
  · cases e

theorem rd1_ok : ∀ (f : Nat) (xs : List T4) (ds : List Int) (A : Put × List Int), tfC xs = 0 → rd1 f xs ds = some A → Rdg xs ds A := by
  intro f
  induction f with
  | zero => intro xs ds A _ e; simp [rd1] at e
  | succ f ih =>
    intro xs ds A h e
    cases ds with
    | nil => simp [rd1] at e
    | cons o r =>
      rw [rd1] at e
      split at e
      · split at e
        · rename_i h2
          obtain ⟨rfl, hc, p1, p2, p3, p4⟩ := rdP_ok h e
          exact ⟨hc, p1, p2, p3, p4, 3, by omega, by simp; omega, by simp⟩
        · cases e
      · split at e
        · split at e
          · cases e
          · rename_i B hB
            have RB := ih xs r B h hB
            obtain ⟨rfl, hc, p1, p2, p3, p4⟩ := rdP_ok RB.right e
            obtain ⟨ys, hy⟩ := RB.pre
            obtain ⟨zs, hz⟩ := p4
            obtain ⟨n, n0, n1, n2⟩ := RB.rest
            exact ⟨hc, p1, p2, p3, ⟨ys ++ zs, by rw [hz, hy, List.append_assoc]⟩, n + 1, by omega, by simp; omega, by simp [n2]⟩
        · split at e
          · split at e
            · cases e
            · rename_i B hB
              have RB := ih xs r B h hB
              split at e
              · cases e
              · rename_i D hD
                have RD := ih _ _ D RB.right hD
                obtain ⟨rfl, hc, p1, p2, p3, p4⟩ := rdP_ok RD.right e
                obtain ⟨ys, hy⟩ := RB.pre
                obtain ⟨us, hu⟩ := RD.pre
                obtain ⟨zs, hz⟩ := p4
                obtain ⟨n, n0, n1, n2⟩ := RB.rest
                obtain ⟨m, m0, m1, m2⟩ := RD.rest
                have : B.2.length = r.length - n := by rw [n2, List.length_drop]
                exact ⟨hc, p1, p2, p3, ⟨ys ++ us ++ zs, by rw [hz, hu, hy]; simp⟩, n + m + 1, by omega, by simp; omega, by dsimp only; rw [m2, n2, List.drop_drop]; simp⟩
          · cases e

/-- A term's bytes are read as it is put with its parts. -/
theorem rd1_enc (t : Tr) : ∀ (f : Nat) (xs : List T4) (r : List Int), tfC xs = 0 → t.wf → t.dp ≤ f → xs.length + t.enc.length ≤ 400 → rd1 f xs (t.enc ++ r) = some (ptr xs t, r) := by
  have came : ∀ (t : Tr) (xs : List T4), tfC xs = 0 → t.wf → xs.length + t.enc.length ≤ 400 → (ptr xs t).c = 0 ∧ Came xs t (ptr xs t) := fun t xs h w hl => by
    rcases ptr_ways t xs h w with ⟨_, e⟩ | h
    · omega
    · exact h
  induction t with
  | leaf o n =>
    intro f xs r h w hd hl
    obtain ⟨f, rfl⟩ : ∃ g, f = g + 1 := ⟨f - 1, by simp only [Tr.dp] at hd; omega⟩
    obtain ⟨c, _⟩ := came _ xs h w hl
    obtain ⟨w1, w2, w3, w4⟩ := w
    have ho : o = 1 ∨ o = 2 := by
      have := btw_iff.1 w1
      rcases kids_ways o with ⟨_, e⟩ | ⟨_, e⟩ | ⟨_, e⟩ | ⟨_, e⟩ | ⟨_, e⟩ | ⟨_, _, _, _, _, _⟩ <;> omega
    have hn : n / 256 % 256 * 256 + n % 256 = n := by omega
    rw [ptr] at c ⊢
    simp only [Tr.enc, List.cons_append, List.nil_append]
    rw [rd1, if_pos ho, if_pos (by simp)]
    simp only [List.getD_cons_zero, List.getD_cons_succ, List.drop_succ_cons, List.drop_zero]
    rw [hn]
    unfold rdP
    rw [if_pos c]
  | one o x ih =>
    intro f xs r h w hd hl
    obtain ⟨f, rfl⟩ : ∃ g, f = g + 1 := ⟨f - 1, by simp only [Tr.dp] at hd; have := x.dp_pos; omega⟩
    obtain ⟨c, _⟩ := came _ xs h w hl
    have h6 := kids_one w.1
    subst h6
    simp only [Tr.enc, List.length_cons] at hl
    simp only [Tr.dp] at hd
    have e := ih f xs r h w.2.2 (by omega) (by omega)
    obtain ⟨cx, _⟩ := came x xs h w.2.2 (by omega)
    simp only [Tr.enc, List.cons_append]
    rw [rd1, if_neg (by omega), if_pos rfl, e]
    dsimp only
    have e2 : ptr xs (.one 6 x) = put (ptr xs x).l ⟨6, (ptr xs x).k, 0, 0⟩ := by rw [ptr]; (try dsimp only); rw [if_pos cx]
    rw [e2] at c ⊢
    unfold rdP
    rw [if_pos c]
  | two o x y ih1 ih2 =>
    intro f xs r h w hd hl
    obtain ⟨f, rfl⟩ : ∃ g, f = g + 1 := ⟨f - 1, by simp only [Tr.dp] at hd; have := x.dp_pos; omega⟩
    obtain ⟨c, _⟩ := came _ xs h w hl
    simp only [Tr.enc, List.length_cons, List.length_append] at hl
    simp only [Tr.dp] at hd
    obtain ⟨cx, CX⟩ := came x xs h w.2.2.1 (by omega)
    have lx := CX.len
    obtain ⟨cy, CY⟩ := came y _ CX.right w.2.2.2 (by omega)
    have e := ih1 f xs (y.enc ++ r) h w.2.2.1 (by omega) (by omega)
    have e' := ih2 f (ptr xs x).l r CX.right w.2.2.2 (by omega) (by omega)
    have k6 := kids6
    have ho : o = 3 ∨ o = 4 ∨ o = 5 ∨ o = 7 := by
      have := w.1
      rcases kids_ways o with ⟨_, _⟩ | ⟨_, _⟩ | ⟨_, _⟩ | ⟨_, _⟩ | ⟨_, _⟩ | ⟨_, _, _, _, _, _⟩ <;> omega
    simp only [Tr.enc, List.cons_append, List.append_assoc]
    rw [rd1, if_neg (by omega), if_neg (by omega), if_pos ho, e]
    dsimp only
    rw [e']
    dsimp only
    have e2 : ptr xs (.two o x y) = put (ptr (ptr xs x).l y).l (if o = 7 then bothT (ptr xs x).k (ptr (ptr xs x).l y).k else ⟨o, (ptr xs x).k, (ptr (ptr xs x).l y).k, 0⟩) := by rw [ptr]; (try dsimp only); rw [if_pos cx]; (try dsimp only); rw [if_pos cy]
    rw [e2] at c ⊢
    unfold rdP
    rw [if_pos c]

/-- What the program's reading tells of bytes. -/
theorem rd1_whole {ds : List Int} (hb : ∀ x ∈ ds, 0 ≤ x ∧ x < 256) (hl : ds.length ≤ 400) :
    (whole ds = none ∧ rd1 ds.length [] ds = none) ∨ (∃ A, whole ds = none ∧ rd1 ds.length [] ds = some A ∧ Rdg [] ds A ∧ enB A.1.l A.1.k ≠ ds)
    ∨ (∃ t A, whole ds = some t ∧ rd1 ds.length [] ds = some A ∧ Rdg [] ds A ∧ A.1 = ptr [] t ∧ t.wf ∧ enB A.1.l A.1.k = ds) := by
  have h0 : tfC ([] : List T4) = 0 := by unfold tfC; simp [tfF]
  cases hw : whole ds with
  | some t =>
    obtain ⟨w, d, s, e⟩ := (whole_iff hb t).1 hw
    have hde := t.dp_enc
    have R := rd1_enc t ds.length [] [] h0 w (by rw [e]; exact hde) (by simp; rw [← e]; exact hl)
    rw [List.append_nil, ← e] at R
    have RG := rd1_ok _ _ _ _ h0 R
    refine .inr (.inr ⟨t, _, rfl, R, RG, rfl, w, ?_⟩)
    have hb2 : deT [] ds = ptr [] t := by
      rcases de_ways [] ds with ⟨h, _⟩ | ⟨_, h, _⟩ | ⟨_, _, h, _⟩ | ⟨t', _, _, h, h2⟩
      · exact absurd h0 h
      · omega
      · rw [hw] at h; cases h
      · rw [hw] at h; simp only [Option.some.injEq] at h; rw [h2, h]
    have hc := RG.c
    dsimp only at hc ⊢
    rw [← hb2] at hc ⊢
    exact (wire_back hb hc).2
  | none =>
    cases hr : rd1 ds.length [] ds with
    | none => exact .inl ⟨rfl, rfl⟩
    | some A =>
      have RG := rd1_ok _ _ _ _ h0 hr
      refine .inr (.inl ⟨A, rfl, rfl, RG, fun he => ?_⟩)
      have hne : ds ≠ [] := by
        obtain ⟨n, n0, n1, _⟩ := RG.rest
        intro e; rw [e] at n1; simp at n1; omega
      rcases en_ways A.1.l A.1.k with ⟨_, _, e⟩ | ⟨_, _, _, e⟩ | ⟨_, _, _, _, _, e⟩ | ⟨_, d, s, l, _, e⟩
      · exact hne (he.symm.trans e)
      · exact hne (he.symm.trans e)
      · exact hne (he.symm.trans e)
      · have wf := den_wf RG.right A.1.k.toNat _ (Nat.le_refl _) (by have := RG.k0; have := RG.k1; omega)
        have := (whole_iff hb _).2 ⟨wf, d, s, he.symm.trans e⟩
        rw [hw] at this; cases this

end Go.Proofs.YtfldgeokigcokaaGreat
