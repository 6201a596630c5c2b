/- A term put with its parts into a table of its own, and moved from there: it is as if it were put where it goes. -/
import Derived.Test.YtfldgeokigcokaaGreatMvA
import Derived.Test.YtfldgeokigcokaaGreatMvG
import Derived.Test.YtfldgeokigcokaaGreatWrB
namespace Go.Proofs.YtfldgeokigcokaaGreat
open Go.RowKit

/-- A term that stands in a right table: a put turns nothing. -/
theorem put_there {xs : List T4} (h : tfC xs = 0) {T : T4} {k : Nat} (hk : k < xs.length) (hc : tmC xs T = 0) (hd : den xs k = denT xs T) : put xs T = ⟨0, k, xs⟩ := by
  have N := tfC_nice h
  obtain ⟨h1, h2⟩ := N.found (zero_fits hc) hk hd
  rcases put_ways xs T with ⟨h3, _⟩ | ⟨_, _, e⟩ | ⟨_, h3, _⟩ | ⟨_, h3, _⟩
  · exact absurd hc h3
  · have hl := tmIdx_lt h2
    have ha := tmIdx_at h2
    have : tmIdx xs T = k := N.inj hl hk (by rw [den_at _ hl N.ahead, den_at _ hk N.ahead, ha, h1])
    rw [e, this]
  · exact absurd h2 h3
  · exact absurd h2 h3

theorem leaf_fits {o n : Int} (xs : List T4) (w : (Tr.leaf o n).wf) : tmC xs ⟨o, 0, 0, n⟩ = 0 ∧ denT xs ⟨o, 0, 0, n⟩ = .leaf o n := by
  obtain ⟨w1, w2, w3, w4⟩ := w
  have F : Fits xs ⟨o, 0, 0, n⟩ := ⟨⟨fun e => absurd e (by dsimp only; omega), fun _ => rfl, fun _ => rfl⟩, fun e => absurd e (by dsimp only; omega), fun e => absurd e (by dsimp only; omega), fun e => by dsimp only at e; rw [e, kids7] at w2; exact absurd w2 (by decide)⟩
  refine ⟨fits_zero F (btw_iff.1 w1) ⟨w3, w4⟩ (fun e => by dsimp only at e; rw [e, kids6] at w2; exact absurd w2 (by decide)), ?_⟩
  unfold denT mkTr; dsimp only; rw [w2]; simp

theorem den_isFresh {xs : List T4} (h : tfC xs = 0) {k : Int} {x : Tr} (h0 : 0 ≤ k) (h1 : k < xs.length) (hd : den xs k.toNat = x) (h2 : x.op = 2) : (tmAt xs k).o = 2 := by
  have := den_op (xs := xs) k.toNat (by omega) (tfC_ahead h)
  rw [hd, h2] at this
  unfold tmAt; exact this.symm

theorem one_fits {o : Int} {x : Tr} {xs : List T4} (h : tfC xs = 0) (w : (Tr.one o x).wf) {k : Int} (k0 : 0 ≤ k) (k1 : k < xs.length) (hd : den xs k.toNat = x) : tmC xs ⟨o, k, 0, 0⟩ = 0 ∧ denT xs ⟨o, k, 0, 0⟩ = .one o x := by
  obtain ⟨w1, w2, w3⟩ := w
  have F : Fits xs ⟨o, k, 0, 0⟩ := ⟨⟨fun _ => rfl, fun e => absurd e (by dsimp only; omega), fun _ => rfl⟩, fun _ => ⟨k0, k1⟩, fun e => absurd e (by dsimp only; omega), fun e => by dsimp only at e; rw [e, kids7] at w1; exact absurd w1 (by decide)⟩
  refine ⟨fits_zero F (btw_iff.1 (wf_btw (by dsimp only; omega))) ⟨Int.le_refl 0, show (0 : Int) ≤ 9999 by decide⟩ (fun _ => den_isFresh h k0 k1 hd w2), ?_⟩
  unfold denT mkTr; dsimp only; rw [w1, hd]; simp

theorem two_fits {o : Int} {x y : Tr} {xs : List T4} (h : tfC xs = 0) (w : (Tr.two o x y).wf) {k q : Int} (k0 : 0 ≤ k) (k1 : k < xs.length) (hd : den xs k.toNat = x) (q0 : 0 ≤ q) (q1 : q < xs.length) (he : den xs q.toNat = y) :
    tmC xs (if o = 7 then bothT k q else ⟨o, k, q, 0⟩) = 0 ∧ denT xs (if o = 7 then bothT k q else ⟨o, k, q, 0⟩) = .two o x y := by
  obtain ⟨w1, w2, w3, w4⟩ := w
  have k6 := kids6
  have k7 := kids7
  by_cases h7 : o = 7
  · subst h7
    obtain ⟨r1, r2, r3⟩ := w2 rfl
    have f1 := den_isFresh h k0 k1 hd r1
    have g1 := den_isFresh h q0 q1 he r2
    rw [if_pos rfl]
    unfold bothT
    have hmin : (min k q = k ∧ max k q = q) ∨ (min k q = q ∧ max k q = k) := by omega
    have F : Fits xs ⟨7, min k q, max k q, 0⟩ := by
      refine ⟨⟨fun _ => rfl, fun e => absurd e (by dsimp only; omega), fun e => absurd e (by dsimp only; omega)⟩, fun _ => by dsimp only; omega, fun _ => by dsimp only; omega, fun _ => ?_⟩
      dsimp only
      rcases hmin with ⟨e1, e2⟩ | ⟨e1, e2⟩ <;> rw [e1, e2]
      · exact ⟨f1, g1, by omega⟩
      · exact ⟨g1, f1, by omega⟩
    refine ⟨fits_zero F ⟨by dsimp only; omega, by dsimp only; omega⟩ ⟨Int.le_refl 0, show (0 : Int) ≤ 9999 by decide⟩ (fun e => absurd e (by dsimp only; omega)), ?_⟩
    unfold denT mkTr; dsimp only
    rw [k7, if_pos rfl]
    rcases hmin with ⟨e1, e2⟩ | ⟨e1, e2⟩ <;> rw [e1, e2, hd, he]
    · rw [if_neg (fun hc => by omega)]
    · by_cases hlt : x.num < y.num
      · rw [if_pos ⟨rfl, hlt⟩]
      · rw [if_neg (fun hc => hlt hc.2)]
        have e : x = y := by
          rw [(Tr.wf_fresh w3 r1).1, (Tr.wf_fresh w4 r2).1, show x.num = y.num by omega]
        rw [e]
  · rw [if_neg h7]
    have F : Fits xs ⟨o, k, q, 0⟩ := ⟨⟨fun _ => rfl, fun e => absurd e (by dsimp only; omega), fun e => absurd e (by dsimp only; omega)⟩, fun _ => ⟨k0, k1⟩, fun _ => ⟨q0, q1⟩, fun e => absurd e h7⟩
    refine ⟨fits_zero F (btw_iff.1 (wf_btw (by dsimp only; omega))) ⟨Int.le_refl 0, show (0 : Int) ≤ 9999 by decide⟩ (fun e => by dsimp only at e; subst e; omega), ?_⟩
    unfold denT mkTr; dsimp only
    rw [w1, hd, he]; simp [h7]

/-- A term that stands in a right table is put there again: nothing turns. -/
theorem ptr_there (t : Tr) : ∀ (xs : List T4) (k : Nat), tfC xs = 0 → t.wf → k < xs.length → den xs k = t → ptr xs t = ⟨0, k, xs⟩ := by
  induction t with
  | leaf o n =>
    intro xs k h w hk hd
    obtain ⟨c, d⟩ := leaf_fits xs w
    rw [ptr]
    exact put_there h hk c (hd.trans d.symm)
  | one o x ih =>
    intro xs k h w hk hd
    have A := tfC_ahead h
    have ho := den_op k hk A
    have hat := den_at k hk A
    obtain ⟨ha, _⟩ := A k hk
    rw [hd] at ho hat
    simp only [Tr.op] at ho
    rw [mkTr_one (ho ▸ w.1)] at hat
    simp only [Tr.one.injEq] at hat
    have ha := ha (by rw [← ho, w.1]; decide)
    have e := ih xs _ h w.2.2 (by omega) hat.2.symm
    rw [ptr, e]
    dsimp only
    rw [if_pos rfl]
    obtain ⟨c, d⟩ := one_fits (k := (((xs.getD k zTerm).a.toNat : Nat) : Int)) h w (by omega) (by omega) (by rw [Int.toNat_natCast]; exact hat.2.symm)
    exact put_there h hk c (hd.trans d.symm)
  | two o x y ih1 ih2 =>
    intro xs k h w hk hd
    have A := tfC_ahead h
    have ho := den_op k hk A
    have hat := den_at k hk A
    obtain ⟨ha, hb⟩ := A k hk
    rw [hd] at ho hat
    simp only [Tr.op] at ho
    have ha := ha (by rw [← ho, w.1]; decide)
    have hb := hb (by rw [← ho, w.1]; decide)
    obtain ⟨p, q, hp, hq, ep, eq⟩ : ∃ p q : Nat, p < xs.length ∧ q < xs.length ∧ den xs p = x ∧ den xs q = y := by
      rcases mkTr_two (t := xs.getD k zTerm) (x := den xs (xs.getD k zTerm).a.toNat) (y := den xs (xs.getD k zTerm).b.toNat) (ho ▸ w.1) with e | e <;> rw [e] at hat <;> simp only [Tr.two.injEq] at hat
      · exact ⟨_, _, by omega, by omega, hat.2.1.symm, hat.2.2.symm⟩
      · exact ⟨_, _, by omega, by omega, hat.2.1.symm, hat.2.2.symm⟩
    have e1 := ih1 xs p h w.2.2.1 hp ep
    have e2 := ih2 xs q h w.2.2.2 hq eq
    rw [ptr, e1]
    dsimp only
    rw [if_pos rfl, e2]
    dsimp only
    rw [if_pos rfl]
    obtain ⟨c, d⟩ := two_fits (k := (p : Int)) (q := (q : Int)) h w (by omega) (by omega) (by rw [Int.toNat_natCast]; exact ep) (by omega) (by omega) (by rw [Int.toNat_natCast]; exact eq)
    exact put_there h hk c (hd.trans d.symm)

/-- The places from one on, up to another. -/
def rng (a b : Nat) : List Int := (List.range' a (b - a)).map fun i : Nat => (i : Int)

theorem rng_none (a : Nat) : rng a a = [] := by simp [rng]

theorem rng_one (a : Nat) : rng a (a + 1) = [(a : Int)] := by
  unfold rng
  rw [show a + 1 - a = 1 by omega]; rfl

theorem rng_app {a b c : Nat} (h : a ≤ b) (h2 : b ≤ c) : rng a c = rng a b ++ rng b c := by
  unfold rng
  rw [← List.map_append, show c - a = (b - a) + (c - b) by omega, ← List.range'_append_1, show a + (b - a) = b by omega]

/-- The last step: a put in one table, and its move into the other. -/
theorem mv_last {fr xs tb : List T4} {T T' : T4} {t : Tr} {pl : Int → Int} (hc : (put xs T).c = 0) (hpre : ∃ zs, fr = (put xs T).l ++ zs) (htb : tfC tb = 0) (hl : ∀ i : Nat, i < xs.length → Leads fr tb pl i)
    (hd : den (put xs T).l (put xs T).k.toNat = t) (hT : mvT T pl = T') (h0 : tmC tb T' = 0) (hdT : denT tb T' = t) (more : List Int) :
    (∃ pl', (put tb T').c = 0 ∧ mvR fr (rng xs.length (put xs T).l.length ++ more) pl tb = mvR fr more pl' (put tb T').l ∧ ∀ i : Nat, i < (put xs T).l.length → Leads fr (put tb T').l pl' i)
    ∨ (put tb T' = ⟨2, 0, []⟩ ∧ (mvR fr (rng xs.length (put xs T).l.length ++ more) pl tb).c = 2) := by
  obtain ⟨zs, hz⟩ := hpre
  rcases put_ways xs T with ⟨h1, e⟩ | ⟨h1, h2, e⟩ | ⟨h1, h2, h3, e⟩ | ⟨h1, h2, h3, e⟩
  · rw [e] at hc; exact absurd hc h1
  · rw [e] at hz hd ⊢
    dsimp only at hz hd ⊢
    have hi := tmIdx_lt h2
    rw [Int.toNat_natCast] at hd
    obtain ⟨_, l2, l3, l4, l5⟩ := hl _ hi
    rw [Int.toNat_natCast, hz, den_app _ _ _ hi, hd] at l5
    have := put_there htb (k := (pl (tmIdx xs T : Nat)).toNat) (by omega) h0 (l5.trans hdT.symm)
    rw [this, rng_none]
    exact .inl ⟨pl, rfl, rfl, hl⟩
  · rw [e] at hc; exact absurd hc (by decide)
  · rw [e] at hz hd ⊢
    dsimp only at hz hd ⊢
    rw [Int.toNat_natCast] at hd
    have el : (xs ++ [T]).length = xs.length + 1 := by simp
    rw [el, rng_one]
    have eT : tmAt fr (xs.length : Int) = T := by
      unfold tmAt
      rw [Int.toNat_natCast, hz, getD_app _ _ _ (by simp), getD_last]
    have ed : den fr xs.length = t := by rw [hz, den_app _ _ _ (by simp)]; exact hd
    have efr : xs.length < fr.length := by rw [hz]; simp
    have N := tfC_nice htb
    have F := zero_fits h0
    rw [List.singleton_append, mvR, eT, hT]
    have fin : ∀ (k : Int) (l : List T4) (ys : List T4), l = tb ++ ys → 0 ≤ k → k < l.length → den l k.toNat = t → ∀ i : Nat, i < xs.length + 1 → Leads fr l (updP pl xs.length k) i := by
      intro k l ys hl2 k0 k1 hk i hi
      by_cases h : i = xs.length
      · subst h
        have eu : updP pl (xs.length : Int) k (xs.length : Int) = k := by unfold updP; rw [if_pos rfl]
        refine ⟨by omega, by omega, ?_, ?_, ?_⟩ <;> rw [eu]
        · exact k0
        · exact k1
        · rw [hk, Int.toNat_natCast, ed]
      · rw [hl2]; exact (hl i (by omega)).upd (by omega)
    rcases put_ways tb T' with ⟨g1, _⟩ | ⟨_, g2, g⟩ | ⟨_, g2, g3, g⟩ | ⟨_, g2, g3, g⟩
    · exact absurd h0 g1
    · rw [g]
      dsimp only
      rw [if_pos rfl]
      have gl := tmIdx_lt g2
      refine .inl ⟨_, rfl, rfl, fin _ tb [] (by simp) (by omega) (by omega) ?_⟩
      rw [Int.toNat_natCast, den_at _ gl N.ahead, tmIdx_at g2, ← hdT]; rfl
    · rw [g]
      exact .inr ⟨rfl, by rw [if_neg (by decide)]⟩
    · rw [g]
      dsimp only
      rw [if_pos rfl]
      refine .inl ⟨_, rfl, rfl, fin _ (tb ++ [T']) [T'] rfl (by omega) (by simp; omega) ?_⟩
      rw [Int.toNat_natCast, den_snoc N F, hdT]

theorem Leads.place {fr tb : List T4} {pl : Int → Int} (htb : tfC tb = 0) {i : Int} {x : Tr} (h : Leads fr tb pl i) (hd : den fr i.toNat = x) {k : Int} (k0 : 0 ≤ k) (k1 : k < tb.length) (hk : den tb k.toNat = x) : pl i = k := by
  obtain ⟨_, _, l3, l4, l5⟩ := h
  have := (tfC_nice htb).inj (k := (pl i).toNat) (k' := k.toNat) (by omega) (by omega) (by rw [l5, hd, hk])
  omega

/-- A term put with its parts into one table, and moved from there into another: it is as if it were put there. -/
theorem mv_run (t : Tr) : ∀ (xs fr tb : List T4) (pl : Int → Int), tfC xs = 0 → t.wf → (ptr xs t).c = 0 → tfC fr = 0 → (∃ zs, fr = (ptr xs t).l ++ zs) → tfC tb = 0 → (∀ i : Nat, i < xs.length → Leads fr tb pl i) → ∀ more : List Int,
    (∃ pl', (ptr tb t).c = 0 ∧ mvR fr (rng xs.length (ptr xs t).l.length ++ more) pl tb = mvR fr more pl' (ptr tb t).l ∧ ∀ i : Nat, i < (ptr xs t).l.length → Leads fr (ptr tb t).l pl' i)
    ∨ (ptr tb t = ⟨2, 0, []⟩ ∧ (mvR fr (rng xs.length (ptr xs t).l.length ++ more) pl tb).c = 2) := by
  have came : ∀ (t : Tr) (xs : List T4), tfC xs = 0 → t.wf → (ptr xs t).c = 0 → Came xs t (ptr xs t) := fun t xs h w hc => by
    rcases ptr_ways t xs h w with ⟨e, _⟩ | ⟨_, C⟩
    · rw [e] at hc; exact absurd hc (by decide)
    · exact C
  induction t with
  | leaf o n =>
    intro xs fr tb pl hx w hc hF hpre htb hl more
    have C := came _ xs hx w hc
    rw [ptr] at hc hpre C ⊢
    rw [ptr]
    obtain ⟨c, d⟩ := leaf_fits tb w
    exact mv_last hc hpre htb hl C.den (by unfold mvT; dsimp only; rw [if_pos w.2.1]) c d more
  | one o x ih =>
    intro xs fr tb pl hx w hc hF hpre htb hl more
    have C := came _ xs hx w hc
    have w3 := w.2.2
    have h6 := kids_one w.1
    subst h6
    obtain ⟨zs, hz⟩ := hpre
    by_cases hA : (ptr xs x).c = 0
    case neg => rw [ptr] at hc; (try dsimp only at hc); rw [if_neg hA] at hc; exact absurd hc hA
    have CA := came x xs hx w3 hA
    have e : ptr xs (.one 6 x) = put (ptr xs x).l ⟨6, (ptr xs x).k, 0, 0⟩ := by rw [ptr]; (try dsimp only); rw [if_pos hA]
    rw [e] at hc hz C ⊢
    have I1 := ih xs fr tb pl hx w3 hA hF
    generalize ptr xs x = A at *
    obtain ⟨_, ⟨us, hu⟩, _⟩ := put_right CA.right hc
    obtain ⟨vs, hv⟩ := CA.pre
    have hzA : fr = A.l ++ (us ++ zs) := by rw [hz, hu, List.append_assoc]
    rw [rng_app (b := A.l.length) (by rw [hv]; simp) (by rw [hu]; simp), List.append_assoc]
    rcases I1 ⟨_, hzA⟩ htb hl _ with ⟨pl', c1, m1, l1⟩ | ⟨e1, m1⟩
    · rw [m1]
      have CB := came x tb htb w3 c1
      have e2 : ptr tb (.one 6 x) = put (ptr tb x).l ⟨6, (ptr tb x).k, 0, 0⟩ := by rw [ptr]; (try dsimp only); rw [if_pos c1]
      rw [e2]
      generalize ptr tb x = B at *
      have ak0 := CA.k0
      have ak1 := CA.k1
      have hpl : pl' A.k = B.k := by
        have L := l1 A.k.toNat (by omega)
        rw [show ((A.k.toNat : Nat) : Int) = A.k by omega] at L
        exact L.place CB.right (by rw [hzA, den_app _ _ _ (by omega)]; exact CA.den) CB.k0 CB.k1 CB.den
      obtain ⟨c, d⟩ := one_fits CB.right w CB.k0 CB.k1 CB.den
      exact mv_last hc ⟨zs, hz⟩ CB.right l1 C.den (by unfold mvT; dsimp only; rw [if_neg (by rw [kids6]; decide), if_pos rfl, hpl]) c d more
    · refine .inr ⟨?_, m1⟩
      rw [ptr]; (try dsimp only); rw [e1]; rfl
  | two o x y ih1 ih2 =>
    intro xs fr tb pl hx w hc hF hpre htb hl more
    have C := came _ xs hx w hc
    have w3 := w.2.2.1
    have w4 := w.2.2.2
    obtain ⟨zs, hz⟩ := hpre
    by_cases hA : (ptr xs x).c = 0
    case neg => rw [ptr] at hc; (try dsimp only at hc); rw [if_neg hA] at hc; exact absurd hc hA
    by_cases hD : (ptr (ptr xs x).l y).c = 0
    case neg => rw [ptr] at hc; dsimp only at hc; rw [if_pos hA, if_neg hD] at hc; exact absurd hc hD
    have CA := came x xs hx w3 hA
    have CD := came y _ CA.right w4 hD
    have e : ptr xs (.two o x y) = put (ptr (ptr xs x).l y).l (if o = 7 then bothT (ptr xs x).k (ptr (ptr xs x).l y).k else ⟨o, (ptr xs x).k, (ptr (ptr xs x).l y).k, 0⟩) := by rw [ptr]; dsimp only; rw [if_pos hA, if_pos hD]
    rw [e] at hc hz C ⊢
    have I2 := ih2 (ptr xs x).l fr
    have I1 := ih1 xs fr tb pl hx w3 hA hF
    generalize ptr xs x = A at *
    generalize ptr A.l y = D at *
    obtain ⟨_, ⟨us, hu⟩, _⟩ := put_right CD.right hc
    obtain ⟨vs, hv⟩ := CA.pre
    obtain ⟨ts, ht⟩ := CD.pre
    have hzD : fr = D.l ++ (us ++ zs) := by rw [hz, hu, List.append_assoc]
    have hzA : fr = A.l ++ (ts ++ (us ++ zs)) := by rw [hzD, ht, List.append_assoc]
    rw [rng_app (a := xs.length) (b := A.l.length) (by rw [hv]; simp) (by rw [hu, ht]; simp), rng_app (a := A.l.length) (b := D.l.length) (by rw [ht]; simp) (by rw [hu]; simp), List.append_assoc, List.append_assoc]
    rcases I1 ⟨_, hzA⟩ htb hl _ with ⟨pl1, c1, m1, l1⟩ | ⟨e1, m1⟩
    · rw [m1]
      have CB := came x tb htb w3 c1
      have e2 : ptr tb (.two o x y) = if (ptr (ptr tb x).l y).c = 0 then put (ptr (ptr tb x).l y).l (if o = 7 then bothT (ptr tb x).k (ptr (ptr tb x).l y).k else ⟨o, (ptr tb x).k, (ptr (ptr tb x).l y).k, 0⟩) else ptr (ptr tb x).l y := by rw [ptr]; (try dsimp only); rw [if_pos c1]
      rw [e2]
      have CE := came y _ CB.right w4
      have I2 := I2 (ptr tb x).l pl1 CA.right w4 hD hF ⟨_, hzD⟩ CB.right l1 (rng D.l.length (put D.l (if o = 7 then bothT A.k D.k else ⟨o, A.k, D.k, 0⟩)).l.length ++ more)
      generalize ptr tb x = B at *
      generalize ptr B.l y = E at *
      have ak0 := CA.k0
      have ak1 := CA.k1
      have dk0 := CD.k0
      have dk1 := CD.k1
      rcases I2 with ⟨pl2, c2, m2, l2⟩ | ⟨e3, m2⟩
      · rw [m2, if_pos c2]
        have CE := CE c2
        obtain ⟨ws, hw⟩ := CE.pre
        have bk0 := CB.k0
        have bk1 := CB.k1
        have dx : den E.l B.k.toNat = x := by rw [hw, den_app _ _ _ (by omega)]; exact CB.den
        have bl : B.k < E.l.length := by rw [hw]; simp; omega
        have hDl : A.l.length ≤ D.l.length := by rw [ht]; simp
        have hp1 : pl2 A.k = B.k := by
          have L := l2 A.k.toNat (by omega)
          rw [show ((A.k.toNat : Nat) : Int) = A.k by omega] at L
          exact L.place CE.right (by rw [hzA, den_app _ _ _ (by omega)]; exact CA.den) bk0 bl dx
        have hp2 : pl2 D.k = E.k := by
          have L := l2 D.k.toNat (by omega)
          rw [show ((D.k.toNat : Nat) : Int) = D.k by omega] at L
          exact L.place CE.right (by rw [hzD, den_app _ _ _ (by omega)]; exact CD.den) CE.k0 CE.k1 CE.den
        obtain ⟨c, d⟩ := two_fits CE.right w bk0 bl dx CE.k0 CE.k1 CE.den
        refine mv_last hc ⟨zs, hz⟩ CE.right l2 C.den ?_ c d more
        have k2 := w.1
        by_cases h7 : o = 7
        · subst h7
          rw [if_pos rfl, if_pos rfl]
          unfold mvT bothT
          dsimp only
          rw [if_neg (by rw [kids7]; decide), if_neg (by decide), if_pos rfl]
          have hmin : (min A.k D.k = A.k ∧ max A.k D.k = D.k) ∨ (min A.k D.k = D.k ∧ max A.k D.k = A.k) := by omega
          rcases hmin with ⟨e4, e5⟩ | ⟨e4, e5⟩ <;> rw [e4, e5, hp1, hp2]
          rw [Int.min_comm, Int.max_comm]
        · rw [if_neg h7, if_neg h7]
          unfold mvT
          dsimp only
          rw [if_neg (by omega), if_neg (fun e => by rw [e, kids6] at k2; exact absurd k2 (by decide)), if_neg h7, hp1, hp2]
      · refine .inr ⟨?_, m2⟩
        rw [e3, if_neg (by decide)]
    · refine .inr ⟨?_, m1⟩
      rw [ptr]; (try dsimp only); rw [e1]; rfl

/-- All that a term is put with is reached from it. -/
theorem ptr_rch (t : Tr) : ∀ xs : List T4, tfC xs = 0 → t.wf → (ptr xs t).c = 0 → ∀ i : Nat, xs.length ≤ i → i < (ptr xs t).l.length → Rch (ptr xs t).l (ptr xs t).k.toNat i := by
  have came : ∀ (t : Tr) (xs : List T4), tfC xs = 0 → t.wf → (ptr xs t).c = 0 → Came xs t (ptr xs t) := fun t xs h w hc => by
    rcases ptr_ways t xs h w with ⟨e, _⟩ | ⟨_, C⟩
    · rw [e] at hc; exact absurd hc (by decide)
    · exact C
  have app : ∀ (xs ys : List T4) (r i : Nat), tfC xs = 0 → r < xs.length → Rch xs r i → Rch (xs ++ ys) r i := fun xs ys r i h hr hR => by
    have N := names_of (tfC_ahead h)
    induction hR with
    | top => exact .top
    | step h1 h2 ih => exact .step ih (by rw [getD_app _ _ _ (by have := h1.lt N hr; omega)]; exact h2)
  have last : ∀ (xs : List T4) (T : T4), tfC xs = 0 → (put xs T).c = 0 → (∃ us, (put xs T).l = xs ++ us) ∧ (put xs T).l.length ≤ xs.length + 1 ∧ (put xs T).l.getD (put xs T).k.toNat zTerm = T ∧ (xs.length < (put xs T).l.length → (put xs T).k = xs.length) := fun xs T h hc => by
    rcases put_ways xs T with ⟨h1, e⟩ | ⟨h1, h2, e⟩ | ⟨h1, h2, h3, e⟩ | ⟨h1, h2, h3, e⟩
    · rw [e] at hc; exact absurd hc h1
    · rw [e]; exact ⟨⟨[], by simp⟩, by simp, by simp only [Int.toNat_natCast]; exact tmIdx_at h2, fun h => absurd h (by simp)⟩
    · rw [e] at hc; exact absurd hc (by decide)
    · rw [e]; exact ⟨⟨_, rfl⟩, by simp, by simp only [Int.toNat_natCast]; exact getD_last _ _, fun _ => rfl⟩
  induction t with
  | leaf o n =>
    intro xs hx w hc i h1 h2
    rw [ptr] at hc h2 ⊢
    obtain ⟨_, l1, _, l3⟩ := last _ _ hx hc
    have := l3 (by omega)
    have e : i = (put xs ⟨o, 0, 0, n⟩).k.toNat := by omega
    rw [← e]; exact .top
  | one o x ih =>
    intro xs hx w hc i h1 h2
    have h6 := kids_one w.1
    subst h6
    by_cases hA : (ptr xs x).c = 0
    case neg => rw [ptr] at hc; (try dsimp only at hc); rw [if_neg hA] at hc; exact absurd hc hA
    have CA := came x xs hx w.2.2 hA
    have I := ih xs hx w.2.2 hA
    have e : ptr xs (.one 6 x) = put (ptr xs x).l ⟨6, (ptr xs x).k, 0, 0⟩ := by rw [ptr]; (try dsimp only); rw [if_pos hA]
    rw [e] at hc h2 ⊢
    generalize ptr xs x = A at *
    obtain ⟨⟨us, l0⟩, l1, l2, l3⟩ := last _ _ CA.right hc
    have k0 := CA.k0
    have k1 := CA.k1
    rcases Nat.lt_or_ge i A.l.length with h3 | h3
    · have R0 : Rch (put A.l ⟨6, A.k, 0, 0⟩).l (put A.l ⟨6, A.k, 0, 0⟩).k.toNat A.k.toNat := .step .top (by rw [l2]; unfold plc; dsimp only; rw [kids6]; simp; omega)
      exact R0.trans (by rw [l0]; exact app _ us _ _ CA.right (by omega) (I i h1 h3))
    · have := l3 (by omega)
      have e2 : i = (put A.l ⟨6, A.k, 0, 0⟩).k.toNat := by omega
      rw [← e2]; exact .top
  | two o x y ih1 ih2 =>
    intro xs hx w hc i h1 h2
    by_cases hA : (ptr xs x).c = 0
    case neg => rw [ptr] at hc; (try dsimp only at hc); rw [if_neg hA] at hc; exact absurd hc hA
    by_cases hD : (ptr (ptr xs x).l y).c = 0
    case neg => rw [ptr] at hc; (try dsimp only at hc); rw [if_pos hA, if_neg hD] at hc; exact absurd hc hD
    have CA := came x xs hx w.2.2.1 hA
    have CD := came y _ CA.right w.2.2.2 hD
    have I1 := ih1 xs hx w.2.2.1 hA
    have I2 := ih2 _ CA.right w.2.2.2 hD
    have e : ptr xs (.two o x y) = put (ptr (ptr xs x).l y).l (if o = 7 then bothT (ptr xs x).k (ptr (ptr xs x).l y).k else ⟨o, (ptr xs x).k, (ptr (ptr xs x).l y).k, 0⟩) := by rw [ptr]; (try dsimp only); rw [if_pos hA, if_pos hD]
    rw [e] at hc h2 ⊢
    generalize ptr xs x = A at *
    generalize ptr A.l y = D at *
    obtain ⟨T, hT⟩ : ∃ T, (if o = 7 then bothT A.k D.k else ⟨o, A.k, D.k, 0⟩ : T4) = T := ⟨_, rfl⟩
    have hm : A.k ∈ plc T ∧ D.k ∈ plc T := by
      rw [← hT]
      by_cases h7 : o = 7
      · rw [if_pos h7]
        unfold bothT plc; dsimp only
        rw [kids7, if_pos rfl]
        have hmin : (min A.k D.k = A.k ∧ max A.k D.k = D.k) ∨ (min A.k D.k = D.k ∧ max A.k D.k = A.k) := by omega
        rcases hmin with ⟨e4, e5⟩ | ⟨e4, e5⟩ <;> rw [e4, e5] <;> simp
      · rw [if_neg h7]
        unfold plc; dsimp only
        rw [w.1, if_pos rfl]; simp
    rw [hT] at hc h2 ⊢
    obtain ⟨⟨us, l0⟩, l1, l2, l3⟩ := last _ _ CD.right hc
    obtain ⟨ts, ht⟩ := CD.pre
    have k0 := CA.k0
    have k1 := CA.k1
    have q0 := CD.k0
    have q1 := CD.k1
    have la : A.l.length ≤ D.l.length := by rw [ht]; simp
    have RA : Rch (put D.l T).l (put D.l T).k.toNat A.k.toNat := .step .top (by rw [l2, Int.toNat_of_nonneg k0]; exact hm.1)
    have RD : Rch (put D.l T).l (put D.l T).k.toNat D.k.toNat := .step .top (by rw [l2, Int.toNat_of_nonneg q0]; exact hm.2)
    rcases Nat.lt_or_ge i A.l.length with h3 | h3
    · exact RA.trans (by rw [l0]; exact app _ us _ _ CD.right (by omega) (by rw [ht]; exact app _ ts _ _ CA.right (by omega) (I1 i h1 h3)))
    · rcases Nat.lt_or_ge i D.l.length with h4 | h4
      · exact RD.trans (by rw [l0]; exact app _ us _ _ CD.right (by omega) (I2 i h3 h4))
      · have := l3 (by omega)
        have e2 : i = (put D.l T).k.toNat := by omega
        rw [← e2]; exact .top

/-- A term that stands in a table of its own, moved into another one: it is as if it were put there with its parts. -/
theorem mv_ptr {t : Tr} {tb : List T4} (w : t.wf) (hc : (ptr [] t).c = 0) (htb : tfC tb = 0) : mvF (ptr [] t).l (ptr [] t).k tb = ptr tb t := by
  have h0 : tfC ([] : List T4) = 0 := by unfold tfC; simp [tfF]
  have came : ∀ xs : List T4, tfC xs = 0 → (ptr xs t).c = 0 → Came xs t (ptr xs t) := fun xs h hc => by
    rcases ptr_ways t xs h w with ⟨e, _⟩ | ⟨_, C⟩
    · rw [e] at hc; exact absurd hc (by decide)
    · exact C
  have C := came [] h0 hc
  have R := ptr_rch t [] h0 w hc
  have M := mv_run t [] (ptr [] t).l tb (fun _ => 0) h0 w hc C.right ⟨[], by simp⟩ htb (fun i hi => absurd hi (by simp)) []
  generalize ptr [] t = F at *
  have k0 := C.k0
  have k1 := C.k1
  have N := names_of (tfC_ahead C.right)
  have hk : F.k.toNat + 1 = F.l.length := by
    have := (R (F.l.length - 1) (by simp) (by omega)).lt N (by omega)
    omega
  have hp : prL F.l F.k.toNat = rng 0 F.l.length := by
    refine rising_eq _ _ (prL_rising _ _) ?_ (fun z => ?_)
    · unfold rng
      rw [List.pairwise_map]
      exact (List.pairwise_lt_range' (s := 0) (n := F.l.length - 0)).imp (fun h => by omega)
    · rw [prL_mem N (by omega)]
      unfold rng
      simp only [List.mem_map, List.mem_range'_1]
      constructor
      · rintro ⟨i, rfl, hi⟩
        exact ⟨i, ⟨by omega, by have := hi.lt N (by omega); omega⟩, rfl⟩
      · rintro ⟨i, hi, rfl⟩
        exact ⟨i, rfl, R i (by simp) (by omega)⟩
  rcases mvF_ways F.l F.k tb with ⟨h, _⟩ | ⟨_, h, _⟩ | ⟨_, _, h, _⟩ | ⟨_, _, _, e⟩
  · exact absurd C.right h
  · exact absurd htb h
  · have : btw F.k 0 ((F.l.length : Int) - 1) = true := btw_iff.2 (by omega)
    rw [h] at this; cases this
  · rw [e]
    unfold mvP
    rw [hp]
    rw [List.append_nil] at M
    rcases M with ⟨pl, c, m, l⟩ | ⟨e1, m⟩
    · rw [List.length_nil] at m
      rw [m, show mvR F.l [] pl (ptr tb t).l = ⟨0, pl, (ptr tb t).l⟩ from by rw [mvR], if_pos rfl]
      dsimp only
      have CB := came tb htb c
      generalize ptr tb t = B at *
      have L := l F.k.toNat (by omega)
      rw [Int.toNat_of_nonneg k0] at L
      have := L.place CB.right C.den CB.k0 CB.k1 CB.den
      rw [this, ← c]
    · rw [List.length_nil] at m
      rw [if_neg (by rw [m]; decide), m, e1]

end Go.Proofs.YtfldgeokigcokaaGreat
