/- Terms moved: what comes of it. -/
import Derived.Test.YtfldgeokigcokaaGreatMvA
import Derived.Test.YtfldgeokigcokaaGreatTmE
import Derived.Test.YtfldgeokigcokaaGreatTmZ
namespace Go.Proofs.YtfldgeokigcokaaGreat
open Go.RowKit

/-- A term of a right table, moved behind a nice one. -/
theorem mv_step {fr tb : List T4} (hv : tfC fr = 0) (T : Nice tb) {pl : Int → Int} {k : Nat} (hk : k < fr.length) (hl : ∀ z ∈ plc (fr.getD k zTerm), Leads fr tb pl z) :
    Fits tb (mvT (fr.getD k zTerm) pl) ∧ denT tb (mvT (fr.getD k zTerm) pl) = den fr k ∧ tmC tb (mvT (fr.getD k zTerm) pl) = 0 := by
  have F := tfC_nice hv
  obtain ⟨x, hx⟩ : ∃ x, fr.getD k zTerm = x := ⟨_, rfl⟩
  have h0 := (tfC_zero hv).2 k hk
  have hz := tm_zero h0.1
  have B := F.bare k hk
  have R := F.rise k hk
  have hA := F.ahead k hk
  have hd : den fr k = denT fr x := by rw [den_at k hk F.ahead, hx]; rfl
  have hla : 0 < kids (fr.getD k zTerm).o → Leads fr tb pl (fr.getD k zTerm).a := fun e => hl _ (by
    unfold plc
    rcases kids_cases (fr.getD k zTerm).o with h | h | h
    · omega
    · rw [h]; simp
    · rw [h]; simp)
  have hlb : 1 < kids (fr.getD k zTerm).o → Leads fr tb pl (fr.getD k zTerm).b := fun e => hl _ (by
    unfold plc
    rcases kids_cases (fr.getD k zTerm).o with h | h | h
    · omega
    · omega
    · rw [h]; simp)
  rw [hx] at *
  obtain ⟨h1, h2⟩ := mv_fits F T B hla hlb (fun e => ⟨(R e).1, (R e).2.1⟩)
  refine ⟨h1, by rw [h2, hd], fits_zero h1 (by rw [mvT_o]; exact hz.1) ?_ ?_⟩
  · have hn := hz.2.1
    unfold mvT
    split
    · exact hn
    · split
      · exact (by decide : (0 : Int) ≤ 0 ∧ (0 : Int) ≤ 9999)
      · split
        · exact (by decide : (0 : Int) ≤ 0 ∧ (0 : Int) ≤ 9999)
        · exact (by decide : (0 : Int) ≤ 0 ∧ (0 : Int) ≤ 9999)
  · intro e
    rw [mvT_o] at e
    have hk6 := kids6
    have L := hla (by rw [e, hk6]; decide)
    have hsec := (tmSec_false (hz.2.2.2.2.2.2 (ofSec_iff.2 (.inl e)))).1
    have ha := hA.1 (by rw [e, hk6]; decide)
    rw [tmAt_take _ _ _ ha.1 ha.2] at hsec
    have em : (mvT x pl).a = pl x.a := by
      unfold mvT
      rw [if_neg (by rw [e, hk6]; decide), if_pos e]
    rw [em]
    obtain ⟨l1, l2, l3, l4, l5⟩ := L
    have e1 := den_op (pl x.a).toNat (by omega) T.ahead
    have e2 := den_op x.a.toNat (by omega) F.ahead
    rw [l5, e2] at e1
    unfold tmAt at *
    rw [← e1]; exact hsec

theorem Leads.upd {fr tb ys : List T4} {pl : Int → Int} {p v : Int} {z : Int} (h : Leads fr tb pl z) (hz : z ≠ p) : Leads fr (tb ++ ys) (updP pl p v) z := by
  have h := h.more (ys := ys)
  unfold Leads at *
  have e : updP pl p v z = pl z := by unfold updP; rw [if_neg hz]
  rw [e]; exact h

/-- What a put of a moved term leaves. -/
theorem mv_put {fr tb : List T4} (hv : tfC fr = 0) (T : Nice tb) {pl : Int → Int} {k : Nat} (hk : k < fr.length) (hl : ∀ z ∈ plc (fr.getD k zTerm), Leads fr tb pl z) {P : Put} (hP : put tb (mvT (fr.getD k zTerm) pl) = P) :
    (P.c = 0 ∧ Nice P.l ∧ (∃ ys, P.l = tb ++ ys ∧ ys.length ≤ 1) ∧ 0 ≤ P.k ∧ P.k < P.l.length ∧ den P.l P.k.toNat = den fr k ∧ ((∃ p, p < tb.length ∧ den tb p = den fr k) → P.l = tb)) ∨ (P.c = 2 ∧ 400 ≤ tb.length ∧ ¬ ∃ p, p < tb.length ∧ den tb p = den fr k) := by
  obtain ⟨hF, hD, hC⟩ := mv_step hv T hk hl
  generalize mvT (fr.getD k zTerm) pl = u at *
  rcases put_ways tb u with ⟨h, _⟩ | ⟨_, hm, hp⟩ | ⟨_, hm, h4, hp⟩ | ⟨_, hm, h4, hp⟩
  · exact absurd hC h
  · left
    rw [hp] at hP
    subst hP
    have h1 := tmIdx_lt hm
    have h2 := tmIdx_at hm
    refine ⟨rfl, T, ⟨[], by simp, by simp⟩, Int.natCast_nonneg _, by simp only; omega, ?_, fun _ => rfl⟩
    simp only [Int.toNat_natCast]
    rw [den_at _ h1 T.ahead, h2, ← hD]; rfl
  · right
    rw [hp] at hP
    subst hP
    refine ⟨rfl, h4, ?_⟩
    rintro ⟨p, hp1, hp2⟩
    exact hm (T.found hF hp1 (hp2.trans hD.symm)).2
  · left
    rw [hp] at hP
    subst hP
    refine ⟨rfl, T.snoc hF hm, ⟨[u], rfl, by simp⟩, by simp, by simp; omega, ?_, ?_⟩
    · simp only [Int.toNat_natCast]
      rw [den_snoc T hF, hD]
    · rintro ⟨p, hp1, hp2⟩
      exact absurd (T.found hF hp1 (hp2.trans hD.symm)).2 hm

theorem rising_earlier {zs : List Int} (h : zs.Pairwise (fun x y => x < y)) {k : Nat} (hk : k < zs.length) {z : Int} (hz : z ∈ zs) (hlt : z < zs.getD k 0) : z ∈ zs.take k := by
  obtain ⟨i, hi, he⟩ := List.getElem_of_mem hz
  have h1 := List.pairwise_iff_getElem.1 h
  have e : zs.getD k 0 = zs[k] := by simp [List.getD, hk]
  rw [e] at hlt
  have : i < k := by
    rcases Nat.lt_trichotomy i k with h2 | h2 | h2
    · exact h2
    · subst h2; omega
    · have := h1 k i hk hi h2; omega
  rw [List.mem_take_iff_getElem]
  exact ⟨i, by omega, he⟩

/-- What has come of the moves so far. -/
structure Mvd (fr : List T4) (zs : List Int) (t0 : List T4) (k : Nat) (pl : Int → Int) (tb : List T4) : Prop where
  nice : Nice tb
  pre : ∃ ys, tb = t0 ++ ys ∧ ys.length ≤ k
  leads : ∀ z ∈ zs.take k, Leads fr tb pl z
  same : (∀ z ∈ zs, ∃ p, p < t0.length ∧ den t0 p = den fr z.toNat) → tb = t0

theorem mvd_step {fr t0 tb : List T4} {r k : Nat} {pl : Int → Int} (hv : tfC fr = 0) (hr : r < fr.length) (h : Mvd fr (prL fr r) t0 k pl tb) (hk : k < (prL fr r).length) {p : Int} (hp : (prL fr r).getD k 0 = p) {P : Put} (hP : put tb (mvT (tmAt fr p) pl) = P) :
    (P.c = 0 ∧ Mvd fr (prL fr r) t0 (k + 1) (updP pl p P.k) P.l) ∨ (P.c = 2 ∧ 400 ≤ tb.length ∧ ¬ ∀ z ∈ prL fr r, ∃ p, p < t0.length ∧ den t0 p = den fr z.toNat) := by
  have N := names_of (tfC_ahead hv)
  have hpm : p ∈ prL fr r := by rw [← hp]; exact igetD_mem hk
  obtain ⟨i, rfl, hi⟩ := (prL_mem N hr).1 hpm
  have hil := hi.lt N hr
  have hin : i < fr.length := by omega
  have hkid : ∀ z ∈ plc (fr.getD i zTerm), Leads fr tb pl z := by
    intro z hz
    have hz2 := N i hin z hz
    obtain ⟨j, rfl⟩ : ∃ j : Nat, z = (j : Int) := ⟨z.toNat, by omega⟩
    refine h.leads _ (rising_earlier (prL_rising fr r) hk ((prL_mem N hr).2 ⟨j, rfl, hi.step hz⟩) (by rw [hp]; omega))
  unfold tmAt at hP
  rw [Int.toNat_natCast] at hP
  obtain ⟨ys, hys, hyl⟩ := h.pre
  rcases mv_put hv h.nice hin hkid hP with ⟨h1, h2, ⟨zs2, h3, h3l⟩, h4, h5, h6, h7⟩ | ⟨h1, h2, h3⟩
  · left
    refine ⟨h1, h2, ⟨ys ++ zs2, by rw [h3, hys, List.append_assoc], by simp; omega⟩, ?_, ?_⟩
    · intro z hz
      have e : (prL fr r).take (k + 1) = (prL fr r).take k ++ [(i : Int)] := by
        rw [List.take_add_one, igetD_some hk, hp]; rfl
      rw [e, List.mem_append, List.mem_singleton] at hz
      by_cases hzi : z = (i : Int)
      · subst hzi
        refine ⟨Int.natCast_nonneg _, by omega, ?_, ?_, ?_⟩
        · unfold updP; rw [if_pos rfl]; exact h4
        · unfold updP; rw [if_pos rfl]; exact h5
        · unfold updP; rw [if_pos rfl, Int.toNat_natCast]; exact h6
      · rcases hz with hz | hz
        · rw [h3]; exact (h.leads z hz).upd hzi
        · exact absurd hz hzi
    · intro ha
      have e := h.same ha
      obtain ⟨q, hq1, hq2⟩ := ha (i : Int) hpm
      rw [Int.toNat_natCast] at hq2
      rw [← e] at hq1 hq2
      rw [h7 ⟨q, hq1, hq2⟩]; exact e
  · right
    refine ⟨h1, h2, fun ha => h3 ?_⟩
    have e := h.same ha
    obtain ⟨q, hq1, hq2⟩ := ha (i : Int) hpm
    rw [Int.toNat_natCast] at hq2
    rw [← e] at hq1 hq2
    exact ⟨q, hq1, hq2⟩

theorem Mvd.start {fr : List T4} {zs : List Int} {t0 : List T4} (T : Nice t0) : Mvd fr zs t0 0 (fun _ => 0) t0 := ⟨T, ⟨[], by simp, by simp⟩, fun z hz => by simp at hz, fun _ => rfl⟩

theorem Nice.nil : Nice [] := ⟨fun k hk => by simp at hk, fun k hk => by simp at hk, fun k hk => by simp at hk, fun k hk => by simp at hk⟩

theorem mvd_run {fr t0 : List T4} {r : Nat} (hv : tfC fr = 0) (hr : r < fr.length) : ∀ (d k : Nat) (pl : Int → Int) (tb : List T4), (prL fr r).length - k = d → k ≤ (prL fr r).length → Mvd fr (prL fr r) t0 k pl tb →
    ∀ M, mvR fr ((prL fr r).drop k) pl tb = M → (M.c = 0 ∧ Mvd fr (prL fr r) t0 (prL fr r).length M.pl M.tb) ∨ (M.c = 2 ∧ (∃ k, k < (prL fr r).length ∧ 400 ≤ t0.length + k) ∧ ¬ ∀ z ∈ prL fr r, ∃ p, p < t0.length ∧ den t0 p = den fr z.toNat) := by
  intro d
  induction d with
  | zero =>
    intro k pl tb hd hk h M hM
    have e : k = (prL fr r).length := by omega
    rw [List.drop_of_length_le (by omega), mvR] at hM
    subst hM
    left
    rw [e] at h
    exact ⟨rfl, h⟩
  | succ d ih =>
    intro k pl tb hd hk h M hM
    have hk1 : k < (prL fr r).length := by omega
    have e : (prL fr r)[k] = (prL fr r).getD k 0 := by simp [List.getD, hk1]
    rw [List.drop_eq_getElem_cons hk1, mvR, e] at hM
    obtain ⟨p, hp⟩ : ∃ p, (prL fr r).getD k 0 = p := ⟨_, rfl⟩
    rw [hp] at hM
    rcases mvd_step hv hr h hk1 hp (P := put tb (mvT (tmAt fr p) pl)) rfl with ⟨h1, h2⟩ | ⟨h1, h2, h3⟩
    · rw [if_pos h1] at hM
      exact ih (k + 1) _ _ (by omega) (by omega) h2 M hM
    · rw [if_neg (by omega)] at hM
      subst hM
      obtain ⟨ys, hy1, hy2⟩ := h.pre
      refine .inr ⟨h1, ⟨k, hk1, ?_⟩, h3⟩
      rw [hy1, List.length_append] at h2
      omega

theorem mkTr_leaf {t : T4} {x y : Tr} (h : kids t.o = 0) : mkTr t x y = .leaf t.o t.n := by unfold mkTr; rw [h]; simp
theorem mkTr_one {t : T4} {x y : Tr} (h : kids t.o = 1) : mkTr t x y = .one t.o x := by unfold mkTr; rw [h]; simp
theorem mkTr_two {t : T4} {x y : Tr} (h : kids t.o = 2) : mkTr t x y = .two t.o x y ∨ mkTr t x y = .two t.o y x := by
  unfold mkTr
  rw [if_pos h]
  split
  · exact .inr rfl
  · exact .inl rfl

/-- What a part of a term is made of stands in each table that the term stands in. -/
theorem den_sub {xs ys : List T4} (X : Ahead xs) (Y : Ahead ys) {p r : Nat} (hp : p < xs.length) (hr : r < ys.length) (h : den xs p = den ys r) {i : Nat} (hi : Rch ys r i) : ∃ q, q < xs.length ∧ den xs q = den ys i := by
  have N := names_of Y
  induction hi with
  | top => exact ⟨p, hp, h⟩
  | @step i j h1 h2 ih =>
    obtain ⟨q, hq, he⟩ := ih
    have hin : i < ys.length := by have := h1.lt N hr; omega
    have ho : (xs.getD q zTerm).o = (ys.getD i zTerm).o := by rw [← den_op q hq X, ← den_op i hin Y, he]
    rw [den_at q hq X, den_at i hin Y] at he
    obtain ⟨qa, qb⟩ := X q hq
    unfold plc at h2
    rcases kids_cases (ys.getD i zTerm).o with hk | hk | hk
    · rw [hk] at h2; simp at h2
    · rw [hk, if_neg (by decide), if_pos rfl, List.mem_singleton] at h2
      rw [mkTr_one (ho ▸ hk), mkTr_one hk] at he
      simp only [Tr.one.injEq] at he
      have ha := qa (by rw [ho, hk]; decide)
      refine ⟨(xs.getD q zTerm).a.toNat, by omega, ?_⟩
      rw [he.2, ← h2]; simp
    · rw [hk, if_pos rfl] at h2
      simp only [List.mem_cons, List.not_mem_nil, or_false] at h2
      have ha := qa (by rw [ho, hk]; decide)
      have hb := qb (by rw [ho, hk]; decide)
      have wa : den xs (xs.getD q zTerm).a.toNat = den ys j ∨ den xs (xs.getD q zTerm).b.toNat = den ys j := by
        have ej : den ys j = den ys (ys.getD i zTerm).a.toNat ∨ den ys j = den ys (ys.getD i zTerm).b.toNat := by
          rcases h2 with h2 | h2
          · left; rw [← h2]; simp
          · right; rw [← h2]; simp
        rcases mkTr_two (t := xs.getD q zTerm) (x := den xs (xs.getD q zTerm).a.toNat) (y := den xs (xs.getD q zTerm).b.toNat) (ho ▸ hk) with e1 | e1 <;> rcases mkTr_two (t := ys.getD i zTerm) (x := den ys (ys.getD i zTerm).a.toNat) (y := den ys (ys.getD i zTerm).b.toNat) hk with e2 | e2 <;> rw [e1, e2] at he <;> simp only [Tr.two.injEq] at he <;> obtain ⟨_, f1, f2⟩ := he <;> rcases ej with ej | ej <;> rw [ej] <;> first | exact .inl f1 | exact .inr f2 | exact .inl f2 | exact .inr f1
      rcases wa with wa | wa
      · exact ⟨_, by omega, wa⟩
      · exact ⟨_, by omega, wa⟩

/-- A term moved into nothing. -/
theorem mv_first {fr : List T4} {x : Nat} (hv : tfC fr = 0) (hx : x < fr.length) {M : Mv} (hM : mvR fr (prL fr x) (fun _ => 0) [] = M) : M.c = 0 ∧ Nice M.tb ∧ M.tb.length ≤ 400 ∧ Leads fr M.tb M.pl x := by
  have N := names_of (tfC_ahead hv)
  have hl := prL_len fr x
  have h4 := (tfC_zero hv).1
  rcases mvd_run hv hx _ 0 (fun _ => 0) [] rfl (Nat.zero_le _) (Mvd.start Nice.nil) M (by rw [List.drop_zero]; exact hM) with ⟨h1, h2⟩ | ⟨h1, ⟨k, hk, h2⟩, _⟩
  · obtain ⟨ys, hy1, hy2⟩ := h2.pre
    refine ⟨h1, h2.nice, by rw [hy1]; simp; omega, h2.leads _ ?_⟩
    rw [List.take_length]
    exact (prL_mem N hx).2 ⟨x, rfl, .top⟩
  · simp at h2; omega

/-- Two terms are the same where, moved into one table, they come to one place of it, and the second puts nothing behind. -/
theorem mv_same {fa fb : List T4} {x y : Nat} (ha : tfC fa = 0) (hx : x < fa.length) (hb : tfC fb = 0) (hy : y < fb.length) {M1 M2 : Mv} (h1 : mvR fa (prL fa x) (fun _ => 0) [] = M1) (h2 : mvR fb (prL fb y) (fun _ => 0) M1.tb = M2) :
    (M2.c = 0 ∧ M2.pl y = M1.pl x ∧ M2.tb.length = M1.tb.length) ↔ den fa x = den fb y := by
  obtain ⟨c1, N1, _, L1⟩ := mv_first ha hx h1
  obtain ⟨_, _, l3, l4, l5⟩ := L1
  rw [Int.toNat_natCast] at l5
  have N := names_of (tfC_ahead hb)
  have hym : (y : Int) ∈ prL fb y := (prL_mem N hy).2 ⟨y, rfl, .top⟩
  have R := mvd_run hb hy _ 0 (fun _ => 0) M1.tb rfl (Nat.zero_le _) (Mvd.start N1) M2 (by rw [List.drop_zero]; exact h2)
  constructor
  · rintro ⟨e1, e2, _⟩
    rcases R with ⟨_, R⟩ | ⟨e, _, _⟩
    · obtain ⟨_, _, k3, k4, k5⟩ := R.leads (y : Int) (by rw [List.take_length]; exact hym)
      obtain ⟨ys, hys, _⟩ := R.pre
      rw [Int.toNat_natCast, e2, hys, den_app _ _ _ (by omega), l5] at k5
      exact k5
    · omega
  · intro e
    have hall : ∀ z ∈ prL fb y, ∃ p, p < M1.tb.length ∧ den M1.tb p = den fb z.toNat := by
      intro z hz
      obtain ⟨i, rfl, hi⟩ := (prL_mem N hy).1 hz
      rw [Int.toNat_natCast]
      exact den_sub N1.ahead (tfC_ahead hb) (p := (M1.pl x).toNat) (by omega) hy (by rw [l5, e]) hi
    rcases R with ⟨e1, R⟩ | ⟨_, _, h⟩
    · have es := R.same hall
      obtain ⟨_, _, k3, k4, k5⟩ := R.leads (y : Int) (by rw [List.take_length]; exact hym)
      rw [Int.toNat_natCast, es] at k5
      rw [es] at k4
      refine ⟨e1, ?_, by rw [es]⟩
      have := N1.inj (by omega) (by omega) (k5.trans (e.symm.trans l5.symm))
      omega
    · exact absurd hall h

end Go.Proofs.YtfldgeokigcokaaGreat
