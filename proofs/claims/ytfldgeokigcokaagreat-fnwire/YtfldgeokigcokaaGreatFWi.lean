/- Put together: MvG, WrP, WrQ, MvH. -/
import Derived.Test.YtfldgeokigcokaaGreatMvA
import Derived.Test.YtfldgeokigcokaaGreatFWo
import Derived.Test.YtfldgeokigcokaaGreatFWk
import Derived.Test.YtfldgeokigcokaaGreatFWj

/- Terms moved: what comes of it. -/
namespace Go.Proofs.YtfldgeokigcokaaGreat
open Go.RowKit

/-- A term of a right table, moved behind a nice one. -/
theorem mv_step {fr tb : List T4} (hv : tfC fr = 0) (T : Nice tb) {pl : Int → Int} {k : Nat} (hk : k < fr.length) (hl : ∀ z ∈ plc (fr.getD k zTerm), Leads fr tb pl z) :
    Fits tb (mvT (fr.getD k zTerm) pl) ∧ denT tb (mvT (fr.getD k zTerm) pl) = den fr k ∧ tmC tb (mvT (fr.getD k zTerm) pl) = 0 := by
  have F := tfC_nice hv
  obtain ⟨x, hx⟩ : ∃ x, fr.getD k zTerm = x := ⟨_, rfl⟩
  have h0 := (tfC_zero hv).2 k hk
  have hz := tm_zero h0.1
  have B := F.bare k hk
  have R := F.rise k hk
  have hA := F.ahead k hk
  have hd : den fr k = denT fr x := by rw [den_at k hk F.ahead, hx]; rfl
  have hla : 0 < kids (fr.getD k zTerm).o → Leads fr tb pl (fr.getD k zTerm).a := fun e => hl _ (by
    unfold plc
    rcases kids_cases (fr.getD k zTerm).o with h | h | h
    · omega
    · rw [h]; simp
    · rw [h]; simp)
  have hlb : 1 < kids (fr.getD k zTerm).o → Leads fr tb pl (fr.getD k zTerm).b := fun e => hl _ (by
    unfold plc
    rcases kids_cases (fr.getD k zTerm).o with h | h | h
    · omega
    · omega
    · rw [h]; simp)
  rw [hx] at *
  obtain ⟨h1, h2⟩ := mv_fits F T B hla hlb (fun e => ⟨(R e).1, (R e).2.1⟩)
  refine ⟨h1, by rw [h2, hd], fits_zero h1 (by rw [mvT_o]; exact hz.1) ?_ ?_⟩
  · have hn := hz.2.1
    unfold mvT
    split
    · exact hn
    · split
      · exact (by decide : (0 : Int) ≤ 0 ∧ (0 : Int) ≤ 9999)
      · split
        · exact (by decide : (0 : Int) ≤ 0 ∧ (0 : Int) ≤ 9999)
        · exact (by decide : (0 : Int) ≤ 0 ∧ (0 : Int) ≤ 9999)
  · intro e
    rw [mvT_o] at e
    have hk6 := kids6
    have L := hla (by rw [e, hk6]; decide)
    have hsec := (tmSec_false (hz.2.2.2.2.2.2 (ofSec_iff.2 (.inl e)))).1
    have ha := hA.1 (by rw [e, hk6]; decide)
    rw [tmAt_take _ _ _ ha.1 ha.2] at hsec
    have em : (mvT x pl).a = pl x.a := by
      unfold mvT
      rw [if_neg (by rw [e, hk6]; decide), if_pos e]
    rw [em]
    obtain ⟨l1, l2, l3, l4, l5⟩ := L
    have e1 := den_op (pl x.a).toNat (by omega) T.ahead
    have e2 := den_op x.a.toNat (by omega) F.ahead
    rw [l5, e2] at e1
    unfold tmAt at *
    rw [← e1]; exact hsec

theorem Leads.upd {fr tb ys : List T4} {pl : Int → Int} {p v : Int} {z : Int} (h : Leads fr tb pl z) (hz : z ≠ p) : Leads fr (tb ++ ys) (updP pl p v) z := by
  have h := h.more (ys := ys)
  unfold Leads at *
  have e : updP pl p v z = pl z := by unfold updP; rw [if_neg hz]
  rw [e]; exact h

/-- What has come of the moves so far. -/
structure Mvd (fr : List T4) (zs : List Int) (t0 : List T4) (k : Nat) (pl : Int → Int) (tb : List T4) : Prop where
  nice : Nice tb
  pre : ∃ ys, tb = t0 ++ ys ∧ ys.length ≤ k
  leads : ∀ z ∈ zs.take k, Leads fr tb pl z
  same : (∀ z ∈ zs, ∃ p, p < t0.length ∧ den t0 p = den fr z.toNat) → tb = t0

theorem Mvd.start {fr : List T4} {zs : List Int} {t0 : List T4} (T : Nice t0) : Mvd fr zs t0 0 (fun _ => 0) t0 := ⟨T, ⟨[], by simp, by simp⟩, fun z hz => by simp at hz, fun _ => rfl⟩

theorem Nice.nil : Nice [] := ⟨fun k hk => by simp at hk, fun k hk => by simp at hk, fun k hk => by simp at hk, fun k hk => by simp at hk⟩

theorem mkTr_leaf {t : T4} {x y : Tr} (h : kids t.o = 0) : mkTr t x y = .leaf t.o t.n := by unfold mkTr; rw [h]; simp
theorem mkTr_one {t : T4} {x y : Tr} (h : kids t.o = 1) : mkTr t x y = .one t.o x := by unfold mkTr; rw [h]; simp
theorem mkTr_two {t : T4} {x y : Tr} (h : kids t.o = 2) : mkTr t x y = .two t.o x y ∨ mkTr t x y = .two t.o y x := by
  unfold mkTr
  rw [if_pos h]
  split
  · exact .inr rfl
  · exact .inl rfl

end Go.Proofs.YtfldgeokigcokaaGreat

/- A term put with its parts into a table of its own, and moved from there: it is as if it were put where it goes. -/
namespace Go.Proofs.YtfldgeokigcokaaGreat
open Go.RowKit

/-- A term that stands in a right table: a put turns nothing. -/
theorem put_there {xs : List T4} (h : tfC xs = 0) {T : T4} {k : Nat} (hk : k < xs.length) (hc : tmC xs T = 0) (hd : den xs k = denT xs T) : put xs T = ⟨0, k, xs⟩ := by
  have N := tfC_nice h
  obtain ⟨h1, h2⟩ := N.found (zero_fits hc) hk hd
  rcases put_ways xs T with ⟨h3, _⟩ | ⟨_, _, e⟩ | ⟨_, h3, _⟩ | ⟨_, h3, _⟩
  · exact absurd hc h3
  · have hl := tmIdx_lt h2
    have ha := tmIdx_at h2
    have : tmIdx xs T = k := N.inj hl hk (by rw [den_at _ hl N.ahead, den_at _ hk N.ahead, ha, h1])
    rw [e, this]
  · exact absurd h2 h3
  · exact absurd h2 h3

theorem leaf_fits {o n : Int} (xs : List T4) (w : (Tr.leaf o n).wf) : tmC xs ⟨o, 0, 0, n⟩ = 0 ∧ denT xs ⟨o, 0, 0, n⟩ = .leaf o n := by
  obtain ⟨w1, w2, w3, w4⟩ := w
  have F : Fits xs ⟨o, 0, 0, n⟩ := ⟨⟨fun e => absurd e (by dsimp only; omega), fun _ => rfl, fun _ => rfl⟩, fun e => absurd e (by dsimp only; omega), fun e => absurd e (by dsimp only; omega), fun e => by dsimp only at e; rw [e, kids7] at w2; exact absurd w2 (by decide)⟩
  refine ⟨fits_zero F (btw_iff.1 w1) ⟨w3, w4⟩ (fun e => by dsimp only at e; rw [e, kids6] at w2; exact absurd w2 (by decide)), ?_⟩
  unfold denT mkTr; dsimp only; rw [w2]; simp

theorem den_isFresh {xs : List T4} (h : tfC xs = 0) {k : Int} {x : Tr} (h0 : 0 ≤ k) (h1 : k < xs.length) (hd : den xs k.toNat = x) (h2 : x.op = 2) : (tmAt xs k).o = 2 := by
  have := den_op (xs := xs) k.toNat (by omega) (tfC_ahead h)
  rw [hd, h2] at this
  unfold tmAt; exact this.symm

theorem one_fits {o : Int} {x : Tr} {xs : List T4} (h : tfC xs = 0) (w : (Tr.one o x).wf) {k : Int} (k0 : 0 ≤ k) (k1 : k < xs.length) (hd : den xs k.toNat = x) : tmC xs ⟨o, k, 0, 0⟩ = 0 ∧ denT xs ⟨o, k, 0, 0⟩ = .one o x := by
  obtain ⟨w1, w2, w3⟩ := w
  have F : Fits xs ⟨o, k, 0, 0⟩ := ⟨⟨fun _ => rfl, fun e => absurd e (by dsimp only; omega), fun _ => rfl⟩, fun _ => ⟨k0, k1⟩, fun e => absurd e (by dsimp only; omega), fun e => by dsimp only at e; rw [e, kids7] at w1; exact absurd w1 (by decide)⟩
  refine ⟨fits_zero F (btw_iff.1 (wf_btw (by dsimp only; omega))) ⟨Int.le_refl 0, show (0 : Int) ≤ 9999 by decide⟩ (fun _ => den_isFresh h k0 k1 hd w2), ?_⟩
  unfold denT mkTr; dsimp only; rw [w1, hd]; simp

theorem two_fits {o : Int} {x y : Tr} {xs : List T4} (h : tfC xs = 0) (w : (Tr.two o x y).wf) {k q : Int} (k0 : 0 ≤ k) (k1 : k < xs.length) (hd : den xs k.toNat = x) (q0 : 0 ≤ q) (q1 : q < xs.length) (he : den xs q.toNat = y) :
    tmC xs (if o = 7 then bothT k q else ⟨o, k, q, 0⟩) = 0 ∧ denT xs (if o = 7 then bothT k q else ⟨o, k, q, 0⟩) = .two o x y := by
  obtain ⟨w1, w2, w3, w4⟩ := w
  have k6 := kids6
  have k7 := kids7
  by_cases h7 : o = 7
  · subst h7
    obtain ⟨r1, r2, r3⟩ := w2 rfl
    have f1 := den_isFresh h k0 k1 hd r1
    have g1 := den_isFresh h q0 q1 he r2
    rw [if_pos rfl]
    unfold bothT
    have hmin : (min k q = k ∧ max k q = q) ∨ (min k q = q ∧ max k q = k) := by omega
    have F : Fits xs ⟨7, min k q, max k q, 0⟩ := by
      refine ⟨⟨fun _ => rfl, fun e => absurd e (by dsimp only; omega), fun e => absurd e (by dsimp only; omega)⟩, fun _ => by dsimp only; omega, fun _ => by dsimp only; omega, fun _ => ?_⟩
      dsimp only
      rcases hmin with ⟨e1, e2⟩ | ⟨e1, e2⟩ <;> rw [e1, e2]
      · exact ⟨f1, g1, by omega⟩
      · exact ⟨g1, f1, by omega⟩
    refine ⟨fits_zero F ⟨by dsimp only; omega, by dsimp only; omega⟩ ⟨Int.le_refl 0, show (0 : Int) ≤ 9999 by decide⟩ (fun e => absurd e (by dsimp only; omega)), ?_⟩
    unfold denT mkTr; dsimp only
    rw [k7, if_pos rfl]
    rcases hmin with ⟨e1, e2⟩ | ⟨e1, e2⟩ <;> rw [e1, e2, hd, he]
    · rw [if_neg (fun hc => by omega)]
    · by_cases hlt : x.num < y.num
      · rw [if_pos ⟨rfl, hlt⟩]
      · rw [if_neg (fun hc => hlt hc.2)]
        have e : x = y := by
          rw [(Tr.wf_fresh w3 r1).1, (Tr.wf_fresh w4 r2).1, show x.num = y.num by omega]
        rw [e]
  · rw [if_neg h7]
    have F : Fits xs ⟨o, k, q, 0⟩ := ⟨⟨fun _ => rfl, fun e => absurd e (by dsimp only; omega), fun e => absurd e (by dsimp only; omega)⟩, fun _ => ⟨k0, k1⟩, fun _ => ⟨q0, q1⟩, fun e => absurd e h7⟩
    refine ⟨fits_zero F (btw_iff.1 (wf_btw (by dsimp only; omega))) ⟨Int.le_refl 0, show (0 : Int) ≤ 9999 by decide⟩ (fun e => by dsimp only at e; subst e; omega), ?_⟩
    unfold denT mkTr; dsimp only
    rw [w1, hd, he]; simp [h7]

/-- The places from one on, up to another. -/
def rng (a b : Nat) : List Int := (List.range' a (b - a)).map fun i : Nat => (i : Int)

theorem rng_none (a : Nat) : rng a a = [] := by simp [rng]

theorem rng_one (a : Nat) : rng a (a + 1) = [(a : Int)] := by
  unfold rng
  rw [show a + 1 - a = 1 by omega]; rfl

theorem rng_app {a b c : Nat} (h : a ≤ b) (h2 : b ≤ c) : rng a c = rng a b ++ rng b c := by
  unfold rng
  rw [← List.map_append, show c - a = (b - a) + (c - b) by omega, ← List.range'_append_1, show a + (b - a) = b by omega]

/-- The last step: a put in one table, and its move into the other. -/
theorem mv_last {fr xs tb : List T4} {T T' : T4} {t : Tr} {pl : Int → Int} (hc : (put xs T).c = 0) (hpre : ∃ zs, fr = (put xs T).l ++ zs) (htb : tfC tb = 0) (hl : ∀ i : Nat, i < xs.length → Leads fr tb pl i)
    (hd : den (put xs T).l (put xs T).k.toNat = t) (hT : mvT T pl = T') (h0 : tmC tb T' = 0) (hdT : denT tb T' = t) (more : List Int) :
    (∃ pl', (put tb T').c = 0 ∧ mvR fr (rng xs.length (put xs T).l.length ++ more) pl tb = mvR fr more pl' (put tb T').l ∧ ∀ i : Nat, i < (put xs T).l.length → Leads fr (put tb T').l pl' i)
    ∨ (put tb T' = ⟨2, 0, []⟩ ∧ (mvR fr (rng xs.length (put xs T).l.length ++ more) pl tb).c = 2) := by
  obtain ⟨zs, hz⟩ := hpre
  rcases put_ways xs T with ⟨h1, e⟩ | ⟨h1, h2, e⟩ | ⟨h1, h2, h3, e⟩ | ⟨h1, h2, h3, e⟩
  · rw [e] at hc; exact absurd hc h1
  · rw [e] at hz hd ⊢
    dsimp only at hz hd ⊢
    have hi := tmIdx_lt h2
    rw [Int.toNat_natCast] at hd
    obtain ⟨_, l2, l3, l4, l5⟩ := hl _ hi
    rw [Int.toNat_natCast, hz, den_app _ _ _ hi, hd] at l5
    have := put_there htb (k := (pl (tmIdx xs T : Nat)).toNat) (by omega) h0 (l5.trans hdT.symm)
    rw [this, rng_none]
    exact .inl ⟨pl, rfl, rfl, hl⟩
  · rw [e] at hc; exact absurd hc (by decide)
  · rw [e] at hz hd ⊢
    dsimp only at hz hd ⊢
    rw [Int.toNat_natCast] at hd
    have el : (xs ++ [T]).length = xs.length + 1 := by simp
    rw [el, rng_one]
    have eT : tmAt fr (xs.length : Int) = T := by
      unfold tmAt
      rw [Int.toNat_natCast, hz, getD_app _ _ _ (by simp), getD_last]
    have ed : den fr xs.length = t := by rw [hz, den_app _ _ _ (by simp)]; exact hd
    have efr : xs.length < fr.length := by rw [hz]; simp
    have N := tfC_nice htb
    have F := zero_fits h0
    rw [List.singleton_append, mvR, eT, hT]
    have fin : ∀ (k : Int) (l : List T4) (ys : List T4), l = tb ++ ys → 0 ≤ k → k < l.length → den l k.toNat = t → ∀ i : Nat, i < xs.length + 1 → Leads fr l (updP pl xs.length k) i := by
      intro k l ys hl2 k0 k1 hk i hi
      by_cases h : i = xs.length
      · subst h
        have eu : updP pl (xs.length : Int) k (xs.length : Int) = k := by unfold updP; rw [if_pos rfl]
        refine ⟨by omega, by omega, ?_, ?_, ?_⟩ <;> rw [eu]
        · exact k0
        · exact k1
        · rw [hk, Int.toNat_natCast, ed]
      · rw [hl2]; exact (hl i (by omega)).upd (by omega)
    rcases put_ways tb T' with ⟨g1, _⟩ | ⟨_, g2, g⟩ | ⟨_, g2, g3, g⟩ | ⟨_, g2, g3, g⟩
    · exact absurd h0 g1
    · rw [g]
      dsimp only
      rw [if_pos rfl]
      have gl := tmIdx_lt g2
      refine .inl ⟨_, rfl, rfl, fin _ tb [] (by simp) (by omega) (by omega) ?_⟩
      rw [Int.toNat_natCast, den_at _ gl N.ahead, tmIdx_at g2, ← hdT]; rfl
    · rw [g]
      exact .inr ⟨rfl, by rw [if_neg (by decide)]⟩
    · rw [g]
      dsimp only
      rw [if_pos rfl]
      refine .inl ⟨_, rfl, rfl, fin _ (tb ++ [T']) [T'] rfl (by omega) (by simp; omega) ?_⟩
      rw [Int.toNat_natCast, den_snoc N F, hdT]

theorem Leads.place {fr tb : List T4} {pl : Int → Int} (htb : tfC tb = 0) {i : Int} {x : Tr} (h : Leads fr tb pl i) (hd : den fr i.toNat = x) {k : Int} (k0 : 0 ≤ k) (k1 : k < tb.length) (hk : den tb k.toNat = x) : pl i = k := by
  obtain ⟨_, _, l3, l4, l5⟩ := h
  have := (tfC_nice htb).inj (k := (pl i).toNat) (k' := k.toNat) (by omega) (by omega) (by rw [l5, hd, hk])
  omega

/-- A term put with its parts into one table, and moved from there into another: it is as if it were put there. -/
theorem mv_run (t : Tr) : ∀ (xs fr tb : List T4) (pl : Int → Int), tfC xs = 0 → t.wf → (ptr xs t).c = 0 → tfC fr = 0 → (∃ zs, fr = (ptr xs t).l ++ zs) → tfC tb = 0 → (∀ i : Nat, i < xs.length → Leads fr tb pl i) → ∀ more : List Int,
    (∃ pl', (ptr tb t).c = 0 ∧ mvR fr (rng xs.length (ptr xs t).l.length ++ more) pl tb = mvR fr more pl' (ptr tb t).l ∧ ∀ i : Nat, i < (ptr xs t).l.length → Leads fr (ptr tb t).l pl' i)
    ∨ (ptr tb t = ⟨2, 0, []⟩ ∧ (mvR fr (rng xs.length (ptr xs t).l.length ++ more) pl tb).c = 2) := by
  have came : ∀ (t : Tr) (xs : List T4), tfC xs = 0 → t.wf → (ptr xs t).c = 0 → Came xs t (ptr xs t) := fun t xs h w hc => by
    rcases ptr_ways t xs h w with ⟨e, _⟩ | ⟨_, C⟩
    · rw [e] at hc; exact absurd hc (by decide)
    · exact C
  induction t with
  | leaf o n =>
    intro xs fr tb pl hx w hc hF hpre htb hl more
    have C := came _ xs hx w hc
    rw [ptr] at hc hpre C ⊢
    rw [ptr]
    obtain ⟨c, d⟩ := leaf_fits tb w
    exact mv_last hc hpre htb hl C.den (by unfold mvT; dsimp only; rw [if_pos w.2.1]) c d more
  | one o x ih =>
    intro xs fr tb pl hx w hc hF hpre htb hl more
    have C := came _ xs hx w hc
    have w3 := w.2.2
    have h6 := kids_one w.1
    subst h6
    obtain ⟨zs, hz⟩ := hpre
    by_cases hA : (ptr xs x).c = 0
    case neg => rw [ptr] at hc; (try dsimp only at hc); rw [if_neg hA] at hc; exact absurd hc hA
    have CA := came x xs hx w3 hA
    have e : ptr xs (.one 6 x) = put (ptr xs x).l ⟨6, (ptr xs x).k, 0, 0⟩ := by rw [ptr]; (try dsimp only); rw [if_pos hA]
    rw [e] at hc hz C ⊢
    have I1 := ih xs fr tb pl hx w3 hA hF
    generalize ptr xs x = A at *
    obtain ⟨_, ⟨us, hu⟩, _⟩ := put_right CA.right hc
    obtain ⟨vs, hv⟩ := CA.pre
    have hzA : fr = A.l ++ (us ++ zs) := by rw [hz, hu, List.append_assoc]
    rw [rng_app (b := A.l.length) (by rw [hv]; simp) (by rw [hu]; simp), List.append_assoc]
    rcases I1 ⟨_, hzA⟩ htb hl _ with ⟨pl', c1, m1, l1⟩ | ⟨e1, m1⟩
    · rw [m1]
      have CB := came x tb htb w3 c1
      have e2 : ptr tb (.one 6 x) = put (ptr tb x).l ⟨6, (ptr tb x).k, 0, 0⟩ := by rw [ptr]; (try dsimp only); rw [if_pos c1]
      rw [e2]
      generalize ptr tb x = B at *
      have ak0 := CA.k0
      have ak1 := CA.k1
      have hpl : pl' A.k = B.k := by
        have L := l1 A.k.toNat (by omega)
        rw [show ((A.k.toNat : Nat) : Int) = A.k by omega] at L
        exact L.place CB.right (by rw [hzA, den_app _ _ _ (by omega)]; exact CA.den) CB.k0 CB.k1 CB.den
      obtain ⟨c, d⟩ := one_fits CB.right w CB.k0 CB.k1 CB.den
      exact mv_last hc ⟨zs, hz⟩ CB.right l1 C.den (by unfold mvT; dsimp only; rw [if_neg (by rw [kids6]; decide), if_pos rfl, hpl]) c d more
    · refine .inr ⟨?_, m1⟩
      rw [ptr]; (try dsimp only); rw [e1]; rfl
  | two o x y ih1 ih2 =>
    intro xs fr tb pl hx w hc hF hpre htb hl more
    have C := came _ xs hx w hc
    have w3 := w.2.2.1
    have w4 := w.2.2.2
    obtain ⟨zs, hz⟩ := hpre
    by_cases hA : (ptr xs x).c = 0
    case neg => rw [ptr] at hc; (try dsimp only at hc); rw [if_neg hA] at hc; exact absurd hc hA
    by_cases hD : (ptr (ptr xs x).l y).c = 0
    case neg => rw [ptr] at hc; dsimp only at hc; rw [if_pos hA, if_neg hD] at hc; exact absurd hc hD
    have CA := came x xs hx w3 hA
    have CD := came y _ CA.right w4 hD
    have e : ptr xs (.two o x y) = put (ptr (ptr xs x).l y).l (if o = 7 then bothT (ptr xs x).k (ptr (ptr xs x).l y).k else ⟨o, (ptr xs x).k, (ptr (ptr xs x).l y).k, 0⟩) := by rw [ptr]; dsimp only; rw [if_pos hA, if_pos hD]
    rw [e] at hc hz C ⊢
    have I2 := ih2 (ptr xs x).l fr
    have I1 := ih1 xs fr tb pl hx w3 hA hF
    generalize ptr xs x = A at *
    generalize ptr A.l y = D at *
    obtain ⟨_, ⟨us, hu⟩, _⟩ := put_right CD.right hc
    obtain ⟨vs, hv⟩ := CA.pre
    obtain ⟨ts, ht⟩ := CD.pre
    have hzD : fr = D.l ++ (us ++ zs) := by rw [hz, hu, List.append_assoc]
    have hzA : fr = A.l ++ (ts ++ (us ++ zs)) := by rw [hzD, ht, List.append_assoc]
    rw [rng_app (a := xs.length) (b := A.l.length) (by rw [hv]; simp) (by rw [hu, ht]; simp), rng_app (a := A.l.length) (b := D.l.length) (by rw [ht]; simp) (by rw [hu]; simp), List.append_assoc, List.append_assoc]
    rcases I1 ⟨_, hzA⟩ htb hl _ with ⟨pl1, c1, m1, l1⟩ | ⟨e1, m1⟩
    · rw [m1]
      have CB := came x tb htb w3 c1
      have e2 : ptr tb (.two o x y) = if (ptr (ptr tb x).l y).c = 0 then put (ptr (ptr tb x).l y).l (if o = 7 then bothT (ptr tb x).k (ptr (ptr tb x).l y).k else ⟨o, (ptr tb x).k, (ptr (ptr tb x).l y).k, 0⟩) else ptr (ptr tb x).l y := by rw [ptr]; (try dsimp only); rw [if_pos c1]
      rw [e2]
      have CE := came y _ CB.right w4
      have I2 := I2 (ptr tb x).l pl1 CA.right w4 hD hF ⟨_, hzD⟩ CB.right l1 (rng D.l.length (put D.l (if o = 7 then bothT A.k D.k else ⟨o, A.k, D.k, 0⟩)).l.length ++ more)
      generalize ptr tb x = B at *
      generalize ptr B.l y = E at *
      have ak0 := CA.k0
      have ak1 := CA.k1
      have dk0 := CD.k0
      have dk1 := CD.k1
      rcases I2 with ⟨pl2, c2, m2, l2⟩ | ⟨e3, m2⟩
      · rw [m2, if_pos c2]
        have CE := CE c2
        obtain ⟨ws, hw⟩ := CE.pre
        have bk0 := CB.k0
        have bk1 := CB.k1
        have dx : den E.l B.k.toNat = x := by rw [hw, den_app _ _ _ (by omega)]; exact CB.den
        have bl : B.k < E.l.length := by rw [hw]; simp; omega
        have hDl : A.l.length ≤ D.l.length := by rw [ht]; simp
        have hp1 : pl2 A.k = B.k := by
          have L := l2 A.k.toNat (by omega)
          rw [show ((A.k.toNat : Nat) : Int) = A.k by omega] at L
          exact L.place CE.right (by rw [hzA, den_app _ _ _ (by omega)]; exact CA.den) bk0 bl dx
        have hp2 : pl2 D.k = E.k := by
          have L := l2 D.k.toNat (by omega)
          rw [show ((D.k.toNat : Nat) : Int) = D.k by omega] at L
          exact L.place CE.right (by rw [hzD, den_app _ _ _ (by omega)]; exact CD.den) CE.k0 CE.k1 CE.den
        obtain ⟨c, d⟩ := two_fits CE.right w bk0 bl dx CE.k0 CE.k1 CE.den
        refine mv_last hc ⟨zs, hz⟩ CE.right l2 C.den ?_ c d more
        have k2 := w.1
        by_cases h7 : o = 7
        · subst h7
          rw [if_pos rfl, if_pos rfl]
          unfold mvT bothT
          dsimp only
          rw [if_neg (by rw [kids7]; decide), if_neg (by decide), if_pos rfl]
          have hmin : (min A.k D.k = A.k ∧ max A.k D.k = D.k) ∨ (min A.k D.k = D.k ∧ max A.k D.k = A.k) := by omega
          rcases hmin with ⟨e4, e5⟩ | ⟨e4, e5⟩ <;> rw [e4, e5, hp1, hp2]
          rw [Int.min_comm, Int.max_comm]
        · rw [if_neg h7, if_neg h7]
          unfold mvT
          dsimp only
          rw [if_neg (by omega), if_neg (fun e => by rw [e, kids6] at k2; exact absurd k2 (by decide)), if_neg h7, hp1, hp2]
      · refine .inr ⟨?_, m2⟩
        rw [e3, if_neg (by decide)]
    · refine .inr ⟨?_, m1⟩
      rw [ptr]; (try dsimp only); rw [e1]; rfl

/-- All that a term is put with is reached from it. -/
theorem ptr_rch (t : Tr) : ∀ xs : List T4, tfC xs = 0 → t.wf → (ptr xs t).c = 0 → ∀ i : Nat, xs.length ≤ i → i < (ptr xs t).l.length → Rch (ptr xs t).l (ptr xs t).k.toNat i := by
  have came : ∀ (t : Tr) (xs : List T4), tfC xs = 0 → t.wf → (ptr xs t).c = 0 → Came xs t (ptr xs t) := fun t xs h w hc => by
    rcases ptr_ways t xs h w with ⟨e, _⟩ | ⟨_, C⟩
    · rw [e] at hc; exact absurd hc (by decide)
    · exact C
  have app : ∀ (xs ys : List T4) (r i : Nat), tfC xs = 0 → r < xs.length → Rch xs r i → Rch (xs ++ ys) r i := fun xs ys r i h hr hR => by
    have N := names_of (tfC_ahead h)
    induction hR with
    | top => exact .top
    | step h1 h2 ih => exact .step ih (by rw [getD_app _ _ _ (by have := h1.lt N hr; omega)]; exact h2)
  have last : ∀ (xs : List T4) (T : T4), tfC xs = 0 → (put xs T).c = 0 → (∃ us, (put xs T).l = xs ++ us) ∧ (put xs T).l.length ≤ xs.length + 1 ∧ (put xs T).l.getD (put xs T).k.toNat zTerm = T ∧ (xs.length < (put xs T).l.length → (put xs T).k = xs.length) := fun xs T h hc => by
    rcases put_ways xs T with ⟨h1, e⟩ | ⟨h1, h2, e⟩ | ⟨h1, h2, h3, e⟩ | ⟨h1, h2, h3, e⟩
    · rw [e] at hc; exact absurd hc h1
    · rw [e]; exact ⟨⟨[], by simp⟩, by simp, by simp only [Int.toNat_natCast]; exact tmIdx_at h2, fun h => absurd h (by simp)⟩
    · rw [e] at hc; exact absurd hc (by decide)
    · rw [e]; exact ⟨⟨_, rfl⟩, by simp, by simp only [Int.toNat_natCast]; exact getD_last _ _, fun _ => rfl⟩
  induction t with
  | leaf o n =>
    intro xs hx w hc i h1 h2
    rw [ptr] at hc h2 ⊢
    obtain ⟨_, l1, _, l3⟩ := last _ _ hx hc
    have := l3 (by omega)
    have e : i = (put xs ⟨o, 0, 0, n⟩).k.toNat := by omega
    rw [← e]; exact .top
  | one o x ih =>
    intro xs hx w hc i h1 h2
    have h6 := kids_one w.1
    subst h6
    by_cases hA : (ptr xs x).c = 0
    case neg => rw [ptr] at hc; (try dsimp only at hc); rw [if_neg hA] at hc; exact absurd hc hA
    have CA := came x xs hx w.2.2 hA
    have I := ih xs hx w.2.2 hA
    have e : ptr xs (.one 6 x) = put (ptr xs x).l ⟨6, (ptr xs x).k, 0, 0⟩ := by rw [ptr]; (try dsimp only); rw [if_pos hA]
    rw [e] at hc h2 ⊢
    generalize ptr xs x = A at *
    obtain ⟨⟨us, l0⟩, l1, l2, l3⟩ := last _ _ CA.right hc
    have k0 := CA.k0
    have k1 := CA.k1
    rcases Nat.lt_or_ge i A.l.length with h3 | h3
    · have R0 : Rch (put A.l ⟨6, A.k, 0, 0⟩).l (put A.l ⟨6, A.k, 0, 0⟩).k.toNat A.k.toNat := .step .top (by rw [l2]; unfold plc; dsimp only; rw [kids6]; simp; omega)
      exact R0.trans (by rw [l0]; exact app _ us _ _ CA.right (by omega) (I i h1 h3))
    · have := l3 (by omega)
      have e2 : i = (put A.l ⟨6, A.k, 0, 0⟩).k.toNat := by omega
      rw [← e2]; exact .top
  | two o x y ih1 ih2 =>
    intro xs hx w hc i h1 h2
    by_cases hA : (ptr xs x).c = 0
    case neg => rw [ptr] at hc; (try dsimp only at hc); rw [if_neg hA] at hc; exact absurd hc hA
    by_cases hD : (ptr (ptr xs x).l y).c = 0
    case neg => rw [ptr] at hc; (try dsimp only at hc); rw [if_pos hA, if_neg hD] at hc; exact absurd hc hD
    have CA := came x xs hx w.2.2.1 hA
    have CD := came y _ CA.right w.2.2.2 hD
    have I1 := ih1 xs hx w.2.2.1 hA
    have I2 := ih2 _ CA.right w.2.2.2 hD
    have e : ptr xs (.two o x y) = put (ptr (ptr xs x).l y).l (if o = 7 then bothT (ptr xs x).k (ptr (ptr xs x).l y).k else ⟨o, (ptr xs x).k, (ptr (ptr xs x).l y).k, 0⟩) := by rw [ptr]; (try dsimp only); rw [if_pos hA, if_pos hD]
    rw [e] at hc h2 ⊢
    generalize ptr xs x = A at *
    generalize ptr A.l y = D at *
    obtain ⟨T, hT⟩ : ∃ T, (if o = 7 then bothT A.k D.k else ⟨o, A.k, D.k, 0⟩ : T4) = T := ⟨_, rfl⟩
    have hm : A.k ∈ plc T ∧ D.k ∈ plc T := by
      rw [← hT]
      by_cases h7 : o = 7
      · rw [if_pos h7]
        unfold bothT plc; dsimp only
        rw [kids7, if_pos rfl]
        have hmin : (min A.k D.k = A.k ∧ max A.k D.k = D.k) ∨ (min A.k D.k = D.k ∧ max A.k D.k = A.k) := by omega
        rcases hmin with ⟨e4, e5⟩ | ⟨e4, e5⟩ <;> rw [e4, e5] <;> simp
      · rw [if_neg h7]
        unfold plc; dsimp only
        rw [w.1, if_pos rfl]; simp
    rw [hT] at hc h2 ⊢
    obtain ⟨⟨us, l0⟩, l1, l2, l3⟩ := last _ _ CD.right hc
    obtain ⟨ts, ht⟩ := CD.pre
    have k0 := CA.k0
    have k1 := CA.k1
    have q0 := CD.k0
    have q1 := CD.k1
    have la : A.l.length ≤ D.l.length := by rw [ht]; simp
    have RA : Rch (put D.l T).l (put D.l T).k.toNat A.k.toNat := .step .top (by rw [l2, Int.toNat_of_nonneg k0]; exact hm.1)
    have RD : Rch (put D.l T).l (put D.l T).k.toNat D.k.toNat := .step .top (by rw [l2, Int.toNat_of_nonneg q0]; exact hm.2)
    rcases Nat.lt_or_ge i A.l.length with h3 | h3
    · exact RA.trans (by rw [l0]; exact app _ us _ _ CD.right (by omega) (by rw [ht]; exact app _ ts _ _ CA.right (by omega) (I1 i h1 h3)))
    · rcases Nat.lt_or_ge i D.l.length with h4 | h4
      · exact RD.trans (by rw [l0]; exact app _ us _ _ CD.right (by omega) (I2 i h3 h4))
      · have := l3 (by omega)
        have e2 : i = (put D.l T).k.toNat := by omega
        rw [← e2]; exact .top

/-- A term that stands in a table of its own, moved into another one: it is as if it were put there with its parts. -/
theorem mv_ptr {t : Tr} {tb : List T4} (w : t.wf) (hc : (ptr [] t).c = 0) (htb : tfC tb = 0) : mvF (ptr [] t).l (ptr [] t).k tb = ptr tb t := by
  have h0 : tfC ([] : List T4) = 0 := by unfold tfC; simp [tfF]
  have came : ∀ xs : List T4, tfC xs = 0 → (ptr xs t).c = 0 → Came xs t (ptr xs t) := fun xs h hc => by
    rcases ptr_ways t xs h w with ⟨e, _⟩ | ⟨_, C⟩
    · rw [e] at hc; exact absurd hc (by decide)
    · exact C
  have C := came [] h0 hc
  have R := ptr_rch t [] h0 w hc
  have M := mv_run t [] (ptr [] t).l tb (fun _ => 0) h0 w hc C.right ⟨[], by simp⟩ htb (fun i hi => absurd hi (by simp)) []
  generalize ptr [] t = F at *
  have k0 := C.k0
  have k1 := C.k1
  have N := names_of (tfC_ahead C.right)
  have hk : F.k.toNat + 1 = F.l.length := by
    have := (R (F.l.length - 1) (by simp) (by omega)).lt N (by omega)
    omega
  have hp : prL F.l F.k.toNat = rng 0 F.l.length := by
    refine rising_eq _ _ (prL_rising _ _) ?_ (fun z => ?_)
    · unfold rng
      rw [List.pairwise_map]
      exact (List.pairwise_lt_range' (s := 0) (n := F.l.length - 0)).imp (fun h => by omega)
    · rw [prL_mem N (by omega)]
      unfold rng
      simp only [List.mem_map, List.mem_range'_1]
      constructor
      · rintro ⟨i, rfl, hi⟩
        exact ⟨i, ⟨by omega, by have := hi.lt N (by omega); omega⟩, rfl⟩
      · rintro ⟨i, hi, rfl⟩
        exact ⟨i, rfl, R i (by simp) (by omega)⟩
  rcases mvF_ways F.l F.k tb with ⟨h, _⟩ | ⟨_, h, _⟩ | ⟨_, _, h, _⟩ | ⟨_, _, _, e⟩
  · exact absurd C.right h
  · exact absurd htb h
  · have : btw F.k 0 ((F.l.length : Int) - 1) = true := btw_iff.2 (by omega)
    rw [h] at this; cases this
  · rw [e]
    unfold mvP
    rw [hp]
    rw [List.append_nil] at M
    rcases M with ⟨pl, c, m, l⟩ | ⟨e1, m⟩
    · rw [List.length_nil] at m
      rw [m, show mvR F.l [] pl (ptr tb t).l = ⟨0, pl, (ptr tb t).l⟩ from by rw [mvR], if_pos rfl]
      dsimp only
      have CB := came tb htb c
      generalize ptr tb t = B at *
      have L := l F.k.toNat (by omega)
      rw [Int.toNat_of_nonneg k0] at L
      have := L.place CB.right C.den CB.k0 CB.k1 CB.den
      rw [this, ← c]
    · rw [List.length_nil] at m
      rw [if_neg (by rw [m]; decide), m, e1]

end Go.Proofs.YtfldgeokigcokaaGreat

/- The program's way of reading bytes. -/
namespace Go.Proofs.YtfldgeokigcokaaGreat
open Go.RowKit

/-- The program's way of reading: what is put, and what is left. -/
def rdP (xs : List T4) (T : T4) (r : List Int) : Option (Put × List Int) := if (put xs T).c = 0 then some (put xs T, r) else none

def rd1 : Nat → List T4 → List Int → Option (Put × List Int)
  | 0, _, _ => none
  | _ + 1, _, [] => none
  | f + 1, xs, o :: r =>
    if o = 1 ∨ o = 2 then (if 2 ≤ r.length then rdP xs ⟨o, 0, 0, r.getD 0 0 * 256 + r.getD 1 0⟩ (r.drop 2) else none)
    else if o = 6 then
      match rd1 f xs r with
      | none => none
      | some A => rdP A.1.l ⟨6, A.1.k, 0, 0⟩ A.2
    else if o = 3 ∨ o = 4 ∨ o = 5 ∨ o = 7 then
      match rd1 f xs r with
      | none => none
      | some A =>
        match rd1 f A.1.l A.2 with
        | none => none
        | some D => rdP D.1.l (if o = 7 then bothT A.1.k D.1.k else ⟨o, A.1.k, D.1.k, 0⟩) D.2
    else none

/-- What a reading leaves. -/
structure Rdg (xs : List T4) (ds : List Int) (A : Put × List Int) : Prop where
  c : A.1.c = 0
  right : tfC A.1.l = 0
  k0 : 0 ≤ A.1.k
  k1 : A.1.k < A.1.l.length
  pre : ∃ ys, A.1.l = xs ++ ys
  rest : ∃ n, 0 < n ∧ n ≤ ds.length ∧ A.2 = ds.drop n

theorem rdP_ok {xs : List T4} {T : T4} {r : List Int} {A : Put × List Int} (h : tfC xs = 0) (e : rdP xs T r = some A) : A = (put xs T, r) ∧ (put xs T).c = 0 ∧ tfC (put xs T).l = 0 ∧ 0 ≤ (put xs T).k ∧ (put xs T).k < (put xs T).l.length ∧ ∃ ys, (put xs T).l = xs ++ ys := by
  unfold rdP at e
  split at e
  · rename_i hc
    simp only [Option.some.injEq] at e
    obtain ⟨p1, p2, p3, p4, _⟩ := put_right h hc
    exact ⟨e.symm, hc, p1, p3, p4, p2⟩
  · cases e

theorem rd1_ok : ∀ (f : Nat) (xs : List T4) (ds : List Int) (A : Put × List Int), tfC xs = 0 → rd1 f xs ds = some A → Rdg xs ds A := by
  intro f
  induction f with
  | zero => intro xs ds A _ e; simp [rd1] at e
  | succ f ih =>
    intro xs ds A h e
    cases ds with
    | nil => simp [rd1] at e
    | cons o r =>
      rw [rd1] at e
      split at e
      · split at e
        · rename_i h2
          obtain ⟨rfl, hc, p1, p2, p3, p4⟩ := rdP_ok h e
          exact ⟨hc, p1, p2, p3, p4, 3, by omega, by simp; omega, by simp⟩
        · cases e
      · split at e
        · split at e
          · cases e
          · rename_i B hB
            have RB := ih xs r B h hB
            obtain ⟨rfl, hc, p1, p2, p3, p4⟩ := rdP_ok RB.right e
            obtain ⟨ys, hy⟩ := RB.pre
            obtain ⟨zs, hz⟩ := p4
            obtain ⟨n, n0, n1, n2⟩ := RB.rest
            exact ⟨hc, p1, p2, p3, ⟨ys ++ zs, by rw [hz, hy, List.append_assoc]⟩, n + 1, by omega, by simp; omega, by simp [n2]⟩
        · split at e
          · split at e
            · cases e
            · rename_i B hB
              have RB := ih xs r B h hB
              split at e
              · cases e
              · rename_i D hD
                have RD := ih _ _ D RB.right hD
                obtain ⟨rfl, hc, p1, p2, p3, p4⟩ := rdP_ok RD.right e
                obtain ⟨ys, hy⟩ := RB.pre
                obtain ⟨us, hu⟩ := RD.pre
                obtain ⟨zs, hz⟩ := p4
                obtain ⟨n, n0, n1, n2⟩ := RB.rest
                obtain ⟨m, m0, m1, m2⟩ := RD.rest
                have : B.2.length = r.length - n := by rw [n2, List.length_drop]
                exact ⟨hc, p1, p2, p3, ⟨ys ++ us ++ zs, by rw [hz, hu, hy]; simp⟩, n + m + 1, by omega, by simp; omega, by dsimp only; rw [m2, n2, List.drop_drop]; simp⟩
          · cases e

/-- A term's bytes are read as it is put with its parts. -/
theorem rd1_enc (t : Tr) : ∀ (f : Nat) (xs : List T4) (r : List Int), tfC xs = 0 → t.wf → t.dp ≤ f → xs.length + t.enc.length ≤ 400 → rd1 f xs (t.enc ++ r) = some (ptr xs t, r) := by
  have came : ∀ (t : Tr) (xs : List T4), tfC xs = 0 → t.wf → xs.length + t.enc.length ≤ 400 → (ptr xs t).c = 0 ∧ Came xs t (ptr xs t) := fun t xs h w hl => by
    rcases ptr_ways t xs h w with ⟨_, e⟩ | h
    · omega
    · exact h
  induction t with
  | leaf o n =>
    intro f xs r h w hd hl
    obtain ⟨f, rfl⟩ : ∃ g, f = g + 1 := ⟨f - 1, by simp only [Tr.dp] at hd; omega⟩
    obtain ⟨c, _⟩ := came _ xs h w hl
    obtain ⟨w1, w2, w3, w4⟩ := w
    have ho : o = 1 ∨ o = 2 := by
      have := btw_iff.1 w1
      rcases kids_ways o with ⟨_, e⟩ | ⟨_, e⟩ | ⟨_, e⟩ | ⟨_, e⟩ | ⟨_, e⟩ | ⟨_, _, _, _, _, _⟩ <;> omega
    have hn : n / 256 % 256 * 256 + n % 256 = n := by omega
    rw [ptr] at c ⊢
    simp only [Tr.enc, List.cons_append, List.nil_append]
    rw [rd1, if_pos ho, if_pos (by simp)]
    simp only [List.getD_cons_zero, List.getD_cons_succ, List.drop_succ_cons, List.drop_zero]
    rw [hn]
    unfold rdP
    rw [if_pos c]
  | one o x ih =>
    intro f xs r h w hd hl
    obtain ⟨f, rfl⟩ : ∃ g, f = g + 1 := ⟨f - 1, by simp only [Tr.dp] at hd; have := x.dp_pos; omega⟩
    obtain ⟨c, _⟩ := came _ xs h w hl
    have h6 := kids_one w.1
    subst h6
    simp only [Tr.enc, List.length_cons] at hl
    simp only [Tr.dp] at hd
    have e := ih f xs r h w.2.2 (by omega) (by omega)
    obtain ⟨cx, _⟩ := came x xs h w.2.2 (by omega)
    simp only [Tr.enc, List.cons_append]
    rw [rd1, if_neg (by omega), if_pos rfl, e]
    dsimp only
    have e2 : ptr xs (.one 6 x) = put (ptr xs x).l ⟨6, (ptr xs x).k, 0, 0⟩ := by rw [ptr]; (try dsimp only); rw [if_pos cx]
    rw [e2] at c ⊢
    unfold rdP
    rw [if_pos c]
  | two o x y ih1 ih2 =>
    intro f xs r h w hd hl
    obtain ⟨f, rfl⟩ : ∃ g, f = g + 1 := ⟨f - 1, by simp only [Tr.dp] at hd; have := x.dp_pos; omega⟩
    obtain ⟨c, _⟩ := came _ xs h w hl
    simp only [Tr.enc, List.length_cons, List.length_append] at hl
    simp only [Tr.dp] at hd
    obtain ⟨cx, CX⟩ := came x xs h w.2.2.1 (by omega)
    have lx := CX.len
    obtain ⟨cy, CY⟩ := came y _ CX.right w.2.2.2 (by omega)
    have e := ih1 f xs (y.enc ++ r) h w.2.2.1 (by omega) (by omega)
    have e' := ih2 f (ptr xs x).l r CX.right w.2.2.2 (by omega) (by omega)
    have k6 := kids6
    have ho : o = 3 ∨ o = 4 ∨ o = 5 ∨ o = 7 := by
      have := w.1
      rcases kids_ways o with ⟨_, _⟩ | ⟨_, _⟩ | ⟨_, _⟩ | ⟨_, _⟩ | ⟨_, _⟩ | ⟨_, _, _, _, _, _⟩ <;> omega
    simp only [Tr.enc, List.cons_append, List.append_assoc]
    rw [rd1, if_neg (by omega), if_neg (by omega), if_pos ho, e]
    dsimp only
    rw [e']
    dsimp only
    have e2 : ptr xs (.two o x y) = put (ptr (ptr xs x).l y).l (if o = 7 then bothT (ptr xs x).k (ptr (ptr xs x).l y).k else ⟨o, (ptr xs x).k, (ptr (ptr xs x).l y).k, 0⟩) := by rw [ptr]; (try dsimp only); rw [if_pos cx]; (try dsimp only); rw [if_pos cy]
    rw [e2] at c ⊢
    unfold rdP
    rw [if_pos c]

/-- What the program's reading tells of bytes. -/
theorem rd1_whole {ds : List Int} (hb : ∀ x ∈ ds, 0 ≤ x ∧ x < 256) (hl : ds.length ≤ 400) :
    (whole ds = none ∧ rd1 ds.length [] ds = none) ∨ (∃ A, whole ds = none ∧ rd1 ds.length [] ds = some A ∧ Rdg [] ds A ∧ enB A.1.l A.1.k ≠ ds)
    ∨ (∃ t A, whole ds = some t ∧ rd1 ds.length [] ds = some A ∧ Rdg [] ds A ∧ A.1 = ptr [] t ∧ t.wf ∧ enB A.1.l A.1.k = ds) := by
  have h0 : tfC ([] : List T4) = 0 := by unfold tfC; simp [tfF]
  cases hw : whole ds with
  | some t =>
    obtain ⟨w, d, s, e⟩ := (whole_iff hb t).1 hw
    have hde := t.dp_enc
    have R := rd1_enc t ds.length [] [] h0 w (by rw [e]; exact hde) (by simp; rw [← e]; exact hl)
    rw [List.append_nil, ← e] at R
    have RG := rd1_ok _ _ _ _ h0 R
    refine .inr (.inr ⟨t, _, rfl, R, RG, rfl, w, ?_⟩)
    have hb2 : deT [] ds = ptr [] t := by
      rcases de_ways [] ds with ⟨h, _⟩ | ⟨_, h, _⟩ | ⟨_, _, h, _⟩ | ⟨t', _, _, h, h2⟩
      · exact absurd h0 h
      · omega
      · rw [hw] at h; cases h
      · rw [hw] at h; simp only [Option.some.injEq] at h; rw [h2, h]
    have hc := RG.c
    dsimp only at hc ⊢
    rw [← hb2] at hc ⊢
    exact (wire_back hb hc).2
  | none =>
    cases hr : rd1 ds.length [] ds with
    | none => exact .inl ⟨rfl, rfl⟩
    | some A =>
      have RG := rd1_ok _ _ _ _ h0 hr
      refine .inr (.inl ⟨A, rfl, rfl, RG, fun he => ?_⟩)
      have hne : ds ≠ [] := by
        obtain ⟨n, n0, n1, _⟩ := RG.rest
        intro e; rw [e] at n1; simp at n1; omega
      rcases en_ways A.1.l A.1.k with ⟨_, _, e⟩ | ⟨_, _, _, e⟩ | ⟨_, _, _, _, _, e⟩ | ⟨_, d, s, l, _, e⟩
      · exact hne (he.symm.trans e)
      · exact hne (he.symm.trans e)
      · exact hne (he.symm.trans e)
      · have wf := den_wf RG.right A.1.k.toNat _ (Nat.le_refl _) (by have := RG.k0; have := RG.k1; omega)
        have := (whole_iff hb _).2 ⟨wf, d, s, he.symm.trans e⟩
        rw [hw] at this; cases this

end Go.Proofs.YtfldgeokigcokaaGreat

/- Terms numbered: what comes of it. -/
namespace Go.Proofs.YtfldgeokigcokaaGreat
open Go.RowKit

/-- The numbers of the terms of a table, and the table of what they number. -/
structure Nb where
  pl : Int → Int
  tb : List T4

def nbS (fr t0 : List T4) : Nat → Nb
  | 0 => ⟨fun _ => 0, t0⟩
  | k + 1 => ⟨updP (nbS fr t0 k).pl k (tmIdx (nbS fr t0 k).tb (mvT (fr.getD k zTerm) (nbS fr t0 k).pl) : Nat), if mvT (fr.getD k zTerm) (nbS fr t0 k).pl ∈ (nbS fr t0 k).tb then (nbS fr t0 k).tb else (nbS fr t0 k).tb ++ [mvT (fr.getD k zTerm) (nbS fr t0 k).pl]⟩

structure NbI (fr t0 : List T4) (k : Nat) (s : Nb) : Prop where
  nice : Nice s.tb
  pre : ∃ ys, s.tb = t0 ++ ys ∧ ys.length ≤ k
  leads : ∀ j : Nat, j < k → Leads fr s.tb s.pl j
  small : ∀ i, 0 ≤ s.pl i ∧ s.pl i ≤ t0.length + k

theorem nb_ok {fr t0 : List T4} (hv : tfC fr = 0) (T : Nice t0) : ∀ k, k ≤ fr.length → NbI fr t0 k (nbS fr t0 k)
  | 0, _ => ⟨T, ⟨[], by simp [nbS], by simp⟩, fun j hj => by omega, fun i => ⟨Int.le_refl 0, by simp only [nbS]; omega⟩⟩
  | k + 1, hk => by
    have I := nb_ok hv T k (by omega)
    rw [nbS]
    generalize nbS fr t0 k = s at *
    obtain ⟨pl, tb⟩ := s
    obtain ⟨hN, ⟨ys, hy1, hy2⟩, hL, hS⟩ := I
    simp only at *
    have hkid : ∀ z ∈ plc (fr.getD k zTerm), Leads fr tb pl z := by
      intro z hz
      have hz2 := plc_ahead k (by omega) (tfC_ahead hv) rfl z hz
      obtain ⟨j, rfl⟩ : ∃ j : Nat, z = (j : Int) := ⟨z.toNat, by omega⟩
      exact hL j (by omega)
    obtain ⟨hF, hD, _⟩ := mv_step hv hN (by omega) hkid
    generalize mvT (fr.getD k zTerm) pl = u at *
    have hlen : tb.length ≤ t0.length + k := by rw [hy1, List.length_append]; omega
    have small : ∀ v : Nat, v ≤ tb.length → ∀ i, 0 ≤ updP pl k (v : Int) i ∧ updP pl k (v : Int) i ≤ (t0.length : Int) + ((k + 1 : Nat) : Int) := by
      intro v hv i
      unfold updP
      split
      · omega
      · have := hS i; omega
    by_cases hm : u ∈ tb
    · rw [if_pos hm]
      have h1 := tmIdx_lt hm
      have h2 := tmIdx_at hm
      refine ⟨hN, ⟨ys, hy1, by omega⟩, ?_, small _ (by omega)⟩
      intro j hj
      by_cases hjk : j = k
      · subst hjk
        refine ⟨by omega, by omega, ?_, ?_, ?_⟩
        · simp only [updP, if_pos]; omega
        · simp only [updP, if_pos]; omega
        · simp only [updP, if_pos, Int.toNat_natCast]
          rw [den_at _ h1 hN.ahead, h2, ← hD]; rfl
      · have := (hL j (by omega)).upd (ys := []) (p := (k : Int)) (v := (tmIdx tb u : Nat)) (by omega)
        rw [List.append_nil] at this
        exact this
    · rw [if_neg hm, tmIdx_out hm]
      refine ⟨hN.snoc hF hm, ⟨ys ++ [u], by rw [hy1, List.append_assoc], by simp; omega⟩, ?_, small _ (Nat.le_refl _)⟩
      intro j hj
      by_cases hjk : j = k
      · subst hjk
        refine ⟨by omega, by omega, ?_, ?_, ?_⟩
        · simp only [updP, if_pos]; omega
        · simp only [updP, if_pos]; simp; omega
        · simp only [updP, if_pos, Int.toNat_natCast]
          rw [den_snoc hN hF, hD]
      · exact (hL j (by omega)).upd (ys := [u]) (p := (k : Int)) (by omega)

/-- Two terms have one number where they are made in the same way. -/
theorem nb_same {fa fb : List T4} {x y : Nat} (ha : tfC fa = 0) (hx : x < fa.length) (hb : tfC fb = 0) (hy : y < fb.length) :
    (nbS fa [] fa.length).pl x = (nbS fb (nbS fa [] fa.length).tb fb.length).pl y ↔ den fa x = den fb y := by
  have I1 := nb_ok ha Nice.nil fa.length (Nat.le_refl _)
  have I2 := nb_ok hb I1.nice fb.length (Nat.le_refl _)
  generalize nbS fa [] fa.length = s at *
  generalize nbS fb s.tb fb.length = r at *
  obtain ⟨_, _, a3, a4, a5⟩ := I1.leads x hx
  obtain ⟨_, _, b3, b4, b5⟩ := I2.leads y hy
  obtain ⟨ys, hys, _⟩ := I2.pre
  rw [Int.toNat_natCast] at a5 b5
  have a6 : den r.tb (s.pl x).toNat = den fa x := by rw [hys, den_app _ _ _ (by omega)]; exact a5
  have a7 : (s.pl x).toNat < r.tb.length := by rw [hys, List.length_append]; omega
  constructor
  · intro e
    rw [← a6, e, b5]
  · intro e
    have := I2.nice.inj a7 (by omega) (a6.trans (e.trans b5.symm))
    omega

end Go.Proofs.YtfldgeokigcokaaGreat
