/- Put together: MvA, MvG, MvB, MvH. -/
import Derived.Test.YthjaehcfakjemaaDoorTmD
import Derived.Test.YthjaehcfakjemaaDoorFml
import Derived.Test.YthjaehcfakjemaaDoorFmi
import Derived.Test.YthjaehcfakjemaaDoorFmj
import Derived.Test.YthjaehcfakjemaaDoorTmK

/- Terms moved into another table: the sums of it. -/
namespace Go.Proofs.YthjaehcfakjemaaDoor
open Go.RowKit

/-- A number for each of so many places. -/
def tab (L : Nat) (f : Int → Int) : List Int := (List.range L).map fun i : Nat => f (i : Int)

theorem tab_len (L : Nat) (f : Int → Int) : (tab L f).length = L := by simp [tab]

theorem tab_at {L : Nat} (f : Int → Int) {i : Nat} (h : i < L) : (tab L f).getD i 0 = f i := by simp [tab, List.getD, h]

theorem tab_zero (L : Nat) : tab L (fun _ => 0) = List.replicate L 0 := by
  unfold tab
  rw [List.map_const']
  simp

def updP (f : Int → Int) (p v : Int) : Int → Int := fun i => if i = p then v else f i

theorem tab_set {L : Nat} (f : Int → Int) {k : Nat} (v : Int) : (tab L f).set k v = tab L (updP f k v) := by
  apply List.ext_getElem
  · simp [tab]
  · intro i h1 h2
    simp only [tab, List.length_set, List.length_map, List.length_range] at h1
    rw [List.getElem_set]
    simp only [tab, updP, List.getElem_map, List.getElem_range]
    by_cases h : k = i
    · rw [if_pos h, if_pos (by omega)]
    · rw [if_neg h, if_neg (by omega)]

/-- What has come of a table when so many terms were moved into it. -/
structure Mv where
  c : Int
  pl : Int → Int
  tb : List T4

def mvR (fr : List T4) : List Int → (Int → Int) → List T4 → Mv
  | [], pl, tb => ⟨0, pl, tb⟩
  | p :: ps, pl, tb => if (put tb (mvT (tmAt fr p) pl)).c = 0 then mvR fr ps (updP pl p (put tb (mvT (tmAt fr p) pl)).k) (put tb (mvT (tmAt fr p) pl)).l else ⟨(put tb (mvT (tmAt fr p) pl)).c, pl, tb⟩

theorem mvR_drop (fr : List T4) (zs : List Int) (pl : Int → Int) (tb : List T4) (k : Nat) (h : k < zs.length) {p : Int} (hp : zs.getD k 0 = p) :
    mvR fr (zs.drop k) pl tb = if (put tb (mvT (tmAt fr p) pl)).c = 0 then mvR fr (zs.drop (k + 1)) (updP pl p (put tb (mvT (tmAt fr p) pl)).k) (put tb (mvT (tmAt fr p) pl)).l else ⟨(put tb (mvT (tmAt fr p) pl)).c, pl, tb⟩ := by
  rw [List.drop_eq_getElem_cons h, mvR]
  have e : zs[k] = p := by rw [← hp]; simp [List.getD, h]
  rw [e]

theorem mvR_end (fr : List T4) (zs : List Int) (pl : Int → Int) (tb : List T4) (k : Nat) (h : zs.length ≤ k) : mvR fr (zs.drop k) pl tb = ⟨0, pl, tb⟩ := by
  rw [List.drop_of_length_le h, mvR]

def PlOk (pl : Int → Int) : Prop := ∀ i, 0 ≤ pl i ∧ pl i ≤ 400

theorem PlOk.zero : PlOk (fun _ => 0) := fun _ => ⟨Int.le_refl 0, (by decide : (0 : Int) ≤ 400)⟩

theorem PlOk.upd {pl : Int → Int} (h : PlOk pl) {p v : Int} (hv : 0 ≤ v ∧ v ≤ 400) : PlOk (updP pl p v) := by
  intro i
  unfold updP
  split
  · exact hv
  · exact h i

theorem PlOk.ok {pl : Int → Int} (h : PlOk pl) (i : Int) : okI (pl i) := okI_of (by have := (h i).1; omega) (by have := (h i).2; omega)

theorem mvT_ok {t : T4} (ht : okT t) {pl : Int → Int} (h : PlOk pl) : okT (mvT t pl) := by
  have z : okI 0 := okI_of (by decide) (by decide)
  unfold mvT
  split
  · exact ht
  · split
    · exact ⟨(okI_of (by decide) (by decide) : okI 6), h.ok _, z, z⟩
    · split
      · exact ⟨(okI_of (by decide) (by decide) : okI 7), okI_min (h.ok _) (h.ok _), okI_max (h.ok _) (h.ok _), z⟩
      · exact ⟨ht.1, h.ok _, h.ok _, z⟩

theorem mvT_both {t : T4} {pl : Int → Int} (h : t.o = 7) : mvT t pl = bothT (pl t.a) (pl t.b) := by
  unfold mvT bothT
  rw [h, kids7]
  simp

theorem mvT_ways {t : T4} (h : 1 ≤ t.o ∧ t.o ≤ 7) (pl : Int → Int) : (t.o = 1 ∧ mvT t pl = t) ∨ ((t.o == 1) = false ∧ t.o = 2 ∧ mvT t pl = t) ∨ ((t.o == 1) = false ∧ (t.o == 2) = false ∧ t.o = 6 ∧ 0 < kids t.o ∧ mvT t pl = ⟨6, pl t.a, 0, 0⟩)
    ∨ ((t.o == 1) = false ∧ (t.o == 2) = false ∧ (t.o == 6) = false ∧ t.o = 7 ∧ 1 < kids t.o ∧ mvT t pl = ⟨7, min (pl t.a) (pl t.b), max (pl t.a) (pl t.b), 0⟩)
    ∨ ((t.o == 1) = false ∧ (t.o == 2) = false ∧ (t.o == 6) = false ∧ (t.o == 7) = false ∧ 1 < kids t.o ∧ mvT t pl = ⟨t.o, pl t.a, pl t.b, 0⟩) := by
  simp only [beq_eq_false_iff_ne]
  unfold mvT
  rcases kids_ways t.o with ⟨e, hk⟩ | ⟨e, hk⟩ | ⟨e, hk⟩ | ⟨e, hk⟩ | ⟨e, hk⟩ | ⟨h3, h4, h5, h7, h6, hk⟩
  iterate 3
    · exact .inr (.inr (.inr (.inr ⟨by omega, by omega, by omega, by omega, by omega, by rw [if_neg (by omega), if_neg (by omega), if_neg (by omega)]⟩)))
  · exact .inr (.inr (.inr (.inl ⟨by omega, by omega, by omega, e, by omega, by rw [if_neg (by omega), if_neg (by omega), if_pos e]⟩)))
  · exact .inr (.inr (.inl ⟨by omega, by omega, e, by omega, by rw [if_neg (by omega), if_pos e]⟩))
  · have e : t.o = 1 ∨ t.o = 2 := by omega
    rcases e with e | e
    · exact .inl ⟨e, by rw [if_pos hk]⟩
    · exact .inr (.inl ⟨by omega, e, by rw [if_pos hk]⟩)

/-- What comes of moving a term of one table into another. -/
@[irreducible] def mvP (fr : List T4) (q : Int) (tb : List T4) : Put :=
  if (mvR fr (prL fr q.toNat) (fun _ => 0) tb).c = 0 then ⟨0, (mvR fr (prL fr q.toNat) (fun _ => 0) tb).pl q, (mvR fr (prL fr q.toNat) (fun _ => 0) tb).tb⟩ else ⟨(mvR fr (prL fr q.toNat) (fun _ => 0) tb).c, 0, []⟩

@[irreducible] def mvF (fr : List T4) (q : Int) (tb : List T4) : Put :=
  if tfC fr = 0 then (if tfC tb = 0 then (if btw q 0 ((fr.length : Int) - 1) = true then mvP fr q tb else ⟨3, 0, []⟩) else ⟨tfC tb, 0, []⟩) else ⟨tfC fr, 0, []⟩

theorem mvF_ways (fr : List T4) (q : Int) (tb : List T4) : (tfC fr ≠ 0 ∧ mvF fr q tb = ⟨tfC fr, 0, []⟩) ∨ (tfC fr = 0 ∧ tfC tb ≠ 0 ∧ mvF fr q tb = ⟨tfC tb, 0, []⟩)
    ∨ (tfC fr = 0 ∧ tfC tb = 0 ∧ btw q 0 ((fr.length : Int) - 1) = false ∧ mvF fr q tb = ⟨3, 0, []⟩) ∨ (tfC fr = 0 ∧ tfC tb = 0 ∧ btw q 0 ((fr.length : Int) - 1) = true ∧ mvF fr q tb = mvP fr q tb) := by
  unfold mvF
  by_cases h1 : tfC fr = 0
  · by_cases h2 : tfC tb = 0
    · cases h3 : btw q 0 ((fr.length : Int) - 1)
      · exact .inr (.inr (.inl ⟨h1, h2, rfl, by rw [if_pos h1, if_pos h2, if_neg (by simp)]⟩))
      · exact .inr (.inr (.inr ⟨h1, h2, rfl, by rw [if_pos h1, if_pos h2, if_pos rfl]⟩))
    · exact .inr (.inl ⟨h1, h2, by rw [if_pos h1, if_neg h2]⟩)
  · exact .inl ⟨h1, by rw [if_neg h1]⟩

theorem mvR_len (fr : List T4) : ∀ (zs : List Int) (pl : Int → Int) (tb : List T4), tb.length ≤ 400 → (mvR fr zs pl tb).tb.length ≤ 400
  | [], pl, tb, h => h
  | p :: ps, pl, tb, h => by
    rw [mvR]
    split
    · exact mvR_len fr ps _ _ (put_len h)
    · exact h

theorem mvP_len {fr : List T4} {q : Int} {tb : List T4} (h : tb.length ≤ 400) : (mvP fr q tb).l.length ≤ 400 := by
  unfold mvP
  split
  · exact mvR_len _ _ _ _ h
  · exact Nat.zero_le _

theorem mvF_len (fr : List T4) (q : Int) (tb : List T4) : (mvF fr q tb).l.length ≤ 400 := by
  rcases mvF_ways fr q tb with ⟨_, h⟩ | ⟨_, _, h⟩ | ⟨_, _, _, h⟩ | ⟨_, h1, _, h⟩
  · rw [h]; exact Nat.zero_le _
  · rw [h]; exact Nat.zero_le _
  · rw [h]; exact Nat.zero_le _
  · rw [h]; exact mvP_len (tfC_zero h1).1

end Go.Proofs.YthjaehcfakjemaaDoor

/- Terms moved: what comes of it. -/
namespace Go.Proofs.YthjaehcfakjemaaDoor
open Go.RowKit

/-- A term of a right table, moved behind a nice one. -/
theorem mv_step {fr tb : List T4} (hv : tfC fr = 0) (T : Nice tb) {pl : Int → Int} {k : Nat} (hk : k < fr.length) (hl : ∀ z ∈ plc (fr.getD k zTerm), Leads fr tb pl z) :
    Fits tb (mvT (fr.getD k zTerm) pl) ∧ denT tb (mvT (fr.getD k zTerm) pl) = den fr k ∧ tmC tb (mvT (fr.getD k zTerm) pl) = 0 := by
  have F := tfC_nice hv
  obtain ⟨x, hx⟩ : ∃ x, fr.getD k zTerm = x := ⟨_, rfl⟩
  have h0 := (tfC_zero hv).2 k hk
  have hz := tm_zero h0.1
  have B := F.bare k hk
  have R := F.rise k hk
  have hA := F.ahead k hk
  have hd : den fr k = denT fr x := by rw [den_at k hk F.ahead, hx]; rfl
  have hla : 0 < kids (fr.getD k zTerm).o → Leads fr tb pl (fr.getD k zTerm).a := fun e => hl _ (by
    unfold plc
    rcases kids_cases (fr.getD k zTerm).o with h | h | h
    · omega
    · rw [h]; simp
    · rw [h]; simp)
  have hlb : 1 < kids (fr.getD k zTerm).o → Leads fr tb pl (fr.getD k zTerm).b := fun e => hl _ (by
    unfold plc
    rcases kids_cases (fr.getD k zTerm).o with h | h | h
    · omega
    · omega
    · rw [h]; simp)
  rw [hx] at *
  obtain ⟨h1, h2⟩ := mv_fits F T B hla hlb (fun e => ⟨(R e).1, (R e).2.1⟩)
  refine ⟨h1, by rw [h2, hd], fits_zero h1 (by rw [mvT_o]; exact hz.1) ?_ ?_⟩
  · have hn := hz.2.1
    unfold mvT
    split
    · exact hn
    · split
      · exact (by decide : (0 : Int) ≤ 0 ∧ (0 : Int) ≤ 9999)
      · split
        · exact (by decide : (0 : Int) ≤ 0 ∧ (0 : Int) ≤ 9999)
        · exact (by decide : (0 : Int) ≤ 0 ∧ (0 : Int) ≤ 9999)
  · intro e
    rw [mvT_o] at e
    have hk6 := kids6
    have L := hla (by rw [e, hk6]; decide)
    have hsec := (tmSec_false (hz.2.2.2.2.2.2 (ofSec_iff.2 (.inl e)))).1
    have ha := hA.1 (by rw [e, hk6]; decide)
    rw [tmAt_take _ _ _ ha.1 ha.2] at hsec
    have em : (mvT x pl).a = pl x.a := by
      unfold mvT
      rw [if_neg (by rw [e, hk6]; decide), if_pos e]
    rw [em]
    obtain ⟨l1, l2, l3, l4, l5⟩ := L
    have e1 := den_op (pl x.a).toNat (by omega) T.ahead
    have e2 := den_op x.a.toNat (by omega) F.ahead
    rw [l5, e2] at e1
    unfold tmAt at *
    rw [← e1]; exact hsec

theorem Leads.upd {fr tb ys : List T4} {pl : Int → Int} {p v : Int} {z : Int} (h : Leads fr tb pl z) (hz : z ≠ p) : Leads fr (tb ++ ys) (updP pl p v) z := by
  have h := h.more (ys := ys)
  unfold Leads at *
  have e : updP pl p v z = pl z := by unfold updP; rw [if_neg hz]
  rw [e]; exact h

/-- What a put of a moved term leaves. -/
theorem mv_put {fr tb : List T4} (hv : tfC fr = 0) (T : Nice tb) {pl : Int → Int} {k : Nat} (hk : k < fr.length) (hl : ∀ z ∈ plc (fr.getD k zTerm), Leads fr tb pl z) {P : Put} (hP : put tb (mvT (fr.getD k zTerm) pl) = P) :
    (P.c = 0 ∧ Nice P.l ∧ (∃ ys, P.l = tb ++ ys ∧ ys.length ≤ 1) ∧ 0 ≤ P.k ∧ P.k < P.l.length ∧ den P.l P.k.toNat = den fr k ∧ ((∃ p, p < tb.length ∧ den tb p = den fr k) → P.l = tb)) ∨ (P.c = 2 ∧ 400 ≤ tb.length ∧ ¬ ∃ p, p < tb.length ∧ den tb p = den fr k) := by
  obtain ⟨hF, hD, hC⟩ := mv_step hv T hk hl
  generalize mvT (fr.getD k zTerm) pl = u at *
  rcases put_ways tb u with ⟨h, _⟩ | ⟨_, hm, hp⟩ | ⟨_, hm, h4, hp⟩ | ⟨_, hm, h4, hp⟩
  · exact absurd hC h
  · left
    rw [hp] at hP
    subst hP
    have h1 := tmIdx_lt hm
    have h2 := tmIdx_at hm
    refine ⟨rfl, T, ⟨[], by simp, by simp⟩, Int.natCast_nonneg _, by simp only; omega, ?_, fun _ => rfl⟩
    simp only [Int.toNat_natCast]
    rw [den_at _ h1 T.ahead, h2, ← hD]; rfl
  · right
    rw [hp] at hP
    subst hP
    refine ⟨rfl, h4, ?_⟩
    rintro ⟨p, hp1, hp2⟩
    exact hm (T.found hF hp1 (hp2.trans hD.symm)).2
  · left
    rw [hp] at hP
    subst hP
    refine ⟨rfl, T.snoc hF hm, ⟨[u], rfl, by simp⟩, by simp, by simp; omega, ?_, ?_⟩
    · simp only [Int.toNat_natCast]
      rw [den_snoc T hF, hD]
    · rintro ⟨p, hp1, hp2⟩
      exact absurd (T.found hF hp1 (hp2.trans hD.symm)).2 hm

theorem rising_earlier {zs : List Int} (h : zs.Pairwise (fun x y => x < y)) {k : Nat} (hk : k < zs.length) {z : Int} (hz : z ∈ zs) (hlt : z < zs.getD k 0) : z ∈ zs.take k := by
  obtain ⟨i, hi, he⟩ := List.getElem_of_mem hz
  have h1 := List.pairwise_iff_getElem.1 h
  have e : zs.getD k 0 = zs[k] := by simp [List.getD, hk]
  rw [e] at hlt
  have : i < k := by
    rcases Nat.lt_trichotomy i k with h2 | h2 | h2
    · exact h2
    · subst h2; omega
    · have := h1 k i hk hi h2; omega
  rw [List.mem_take_iff_getElem]
  exact ⟨i, by omega, he⟩

/-- What has come of the moves so far. -/
structure Mvd (fr : List T4) (zs : List Int) (t0 : List T4) (k : Nat) (pl : Int → Int) (tb : List T4) : Prop where
  nice : Nice tb
  pre : ∃ ys, tb = t0 ++ ys ∧ ys.length ≤ k
  leads : ∀ z ∈ zs.take k, Leads fr tb pl z
  same : (∀ z ∈ zs, ∃ p, p < t0.length ∧ den t0 p = den fr z.toNat) → tb = t0

theorem mvd_step {fr t0 tb : List T4} {r k : Nat} {pl : Int → Int} (hv : tfC fr = 0) (hr : r < fr.length) (h : Mvd fr (prL fr r) t0 k pl tb) (hk : k < (prL fr r).length) {p : Int} (hp : (prL fr r).getD k 0 = p) {P : Put} (hP : put tb (mvT (tmAt fr p) pl) = P) :
    (P.c = 0 ∧ Mvd fr (prL fr r) t0 (k + 1) (updP pl p P.k) P.l) ∨ (P.c = 2 ∧ 400 ≤ tb.length ∧ ¬ ∀ z ∈ prL fr r, ∃ p, p < t0.length ∧ den t0 p = den fr z.toNat) := by
  have N := names_of (tfC_ahead hv)
  have hpm : p ∈ prL fr r := by rw [← hp]; exact igetD_mem hk
  obtain ⟨i, rfl, hi⟩ := (prL_mem N hr).1 hpm
  have hil := hi.lt N hr
  have hin : i < fr.length := by omega
  have hkid : ∀ z ∈ plc (fr.getD i zTerm), Leads fr tb pl z := by
    intro z hz
    have hz2 := N i hin z hz
    obtain ⟨j, rfl⟩ : ∃ j : Nat, z = (j : Int) := ⟨z.toNat, by omega⟩
    refine h.leads _ (rising_earlier (prL_rising fr r) hk ((prL_mem N hr).2 ⟨j, rfl, hi.step hz⟩) (by rw [hp]; omega))
  unfold tmAt at hP
  rw [Int.toNat_natCast] at hP
  obtain ⟨ys, hys, hyl⟩ := h.pre
  rcases mv_put hv h.nice hin hkid hP with ⟨h1, h2, ⟨zs2, h3, h3l⟩, h4, h5, h6, h7⟩ | ⟨h1, h2, h3⟩
  · left
    refine ⟨h1, h2, ⟨ys ++ zs2, by rw [h3, hys, List.append_assoc], by simp; omega⟩, ?_, ?_⟩
    · intro z hz
      have e : (prL fr r).take (k + 1) = (prL fr r).take k ++ [(i : Int)] := by
        rw [List.take_add_one, igetD_some hk, hp]; rfl
      rw [e, List.mem_append, List.mem_singleton] at hz
      by_cases hzi : z = (i : Int)
      · subst hzi
        refine ⟨Int.natCast_nonneg _, by omega, ?_, ?_, ?_⟩
        · unfold updP; rw [if_pos rfl]; exact h4
        · unfold updP; rw [if_pos rfl]; exact h5
        · unfold updP; rw [if_pos rfl, Int.toNat_natCast]; exact h6
      · rcases hz with hz | hz
        · rw [h3]; exact (h.leads z hz).upd hzi
        · exact absurd hz hzi
    · intro ha
      have e := h.same ha
      obtain ⟨q, hq1, hq2⟩ := ha (i : Int) hpm
      rw [Int.toNat_natCast] at hq2
      rw [← e] at hq1 hq2
      rw [h7 ⟨q, hq1, hq2⟩]; exact e
  · right
    refine ⟨h1, h2, fun ha => h3 ?_⟩
    have e := h.same ha
    obtain ⟨q, hq1, hq2⟩ := ha (i : Int) hpm
    rw [Int.toNat_natCast] at hq2
    rw [← e] at hq1 hq2
    exact ⟨q, hq1, hq2⟩

theorem Mvd.start {fr : List T4} {zs : List Int} {t0 : List T4} (T : Nice t0) : Mvd fr zs t0 0 (fun _ => 0) t0 := ⟨T, ⟨[], by simp, by simp⟩, fun z hz => by simp at hz, fun _ => rfl⟩

theorem Nice.nil : Nice [] := ⟨fun k hk => by simp at hk, fun k hk => by simp at hk, fun k hk => by simp at hk, fun k hk => by simp at hk⟩

theorem mvd_run {fr t0 : List T4} {r : Nat} (hv : tfC fr = 0) (hr : r < fr.length) : ∀ (d k : Nat) (pl : Int → Int) (tb : List T4), (prL fr r).length - k = d → k ≤ (prL fr r).length → Mvd fr (prL fr r) t0 k pl tb →
    ∀ M, mvR fr ((prL fr r).drop k) pl tb = M → (M.c = 0 ∧ Mvd fr (prL fr r) t0 (prL fr r).length M.pl M.tb) ∨ (M.c = 2 ∧ (∃ k, k < (prL fr r).length ∧ 400 ≤ t0.length + k) ∧ ¬ ∀ z ∈ prL fr r, ∃ p, p < t0.length ∧ den t0 p = den fr z.toNat) := by
  intro d
  induction d with
  | zero =>
    intro k pl tb hd hk h M hM
    have e : k = (prL fr r).length := by omega
    rw [List.drop_of_length_le (by omega), mvR] at hM
    subst hM
    left
    rw [e] at h
    exact ⟨rfl, h⟩
  | succ d ih =>
    intro k pl tb hd hk h M hM
    have hk1 : k < (prL fr r).length := by omega
    have e : (prL fr r)[k] = (prL fr r).getD k 0 := by simp [List.getD, hk1]
    rw [List.drop_eq_getElem_cons hk1, mvR, e] at hM
    obtain ⟨p, hp⟩ : ∃ p, (prL fr r).getD k 0 = p := ⟨_, rfl⟩
    rw [hp] at hM
    rcases mvd_step hv hr h hk1 hp (P := put tb (mvT (tmAt fr p) pl)) rfl with ⟨h1, h2⟩ | ⟨h1, h2, h3⟩
    · rw [if_pos h1] at hM
      exact ih (k + 1) _ _ (by omega) (by omega) h2 M hM
    · rw [if_neg (by omega)] at hM
      subst hM
      obtain ⟨ys, hy1, hy2⟩ := h.pre
      refine .inr ⟨h1, ⟨k, hk1, ?_⟩, h3⟩
      rw [hy1, List.length_append] at h2
      omega

theorem mkTr_leaf {t : T4} {x y : Tr} (h : kids t.o = 0) : mkTr t x y = .leaf t.o t.n := by unfold mkTr; rw [h]; simp
theorem mkTr_one {t : T4} {x y : Tr} (h : kids t.o = 1) : mkTr t x y = .one t.o x := by unfold mkTr; rw [h]; simp
theorem mkTr_two {t : T4} {x y : Tr} (h : kids t.o = 2) : mkTr t x y = .two t.o x y ∨ mkTr t x y = .two t.o y x := by
  unfold mkTr
  rw [if_pos h]
  split
  · exact .inr rfl
  · exact .inl rfl

/-- What a part of a term is made of stands in each table that the term stands in. -/
theorem den_sub {xs ys : List T4} (X : Ahead xs) (Y : Ahead ys) {p r : Nat} (hp : p < xs.length) (hr : r < ys.length) (h : den xs p = den ys r) {i : Nat} (hi : Rch ys r i) : ∃ q, q < xs.length ∧ den xs q = den ys i := by
  have N := names_of Y
  induction hi with
  | top => exact ⟨p, hp, h⟩
  | @step i j h1 h2 ih =>
    obtain ⟨q, hq, he⟩ := ih
    have hin : i < ys.length := by have := h1.lt N hr; omega
    have ho : (xs.getD q zTerm).o = (ys.getD i zTerm).o := by rw [← den_op q hq X, ← den_op i hin Y, he]
    rw [den_at q hq X, den_at i hin Y] at he
    obtain ⟨qa, qb⟩ := X q hq
    unfold plc at h2
    rcases kids_cases (ys.getD i zTerm).o with hk | hk | hk
    · rw [hk] at h2; simp at h2
    · rw [hk, if_neg (by decide), if_pos rfl, List.mem_singleton] at h2
      rw [mkTr_one (ho ▸ hk), mkTr_one hk] at he
      simp only [Tr.one.injEq] at he
      have ha := qa (by rw [ho, hk]; decide)
      refine ⟨(xs.getD q zTerm).a.toNat, by omega, ?_⟩
      rw [he.2, ← h2]; simp
    · rw [hk, if_pos rfl] at h2
      simp only [List.mem_cons, List.not_mem_nil, or_false] at h2
      have ha := qa (by rw [ho, hk]; decide)
      have hb := qb (by rw [ho, hk]; decide)
      have wa : den xs (xs.getD q zTerm).a.toNat = den ys j ∨ den xs (xs.getD q zTerm).b.toNat = den ys j := by
        have ej : den ys j = den ys (ys.getD i zTerm).a.toNat ∨ den ys j = den ys (ys.getD i zTerm).b.toNat := by
          rcases h2 with h2 | h2
          · left; rw [← h2]; simp
          · right; rw [← h2]; simp
        rcases mkTr_two (t := xs.getD q zTerm) (x := den xs (xs.getD q zTerm).a.toNat) (y := den xs (xs.getD q zTerm).b.toNat) (ho ▸ hk) with e1 | e1 <;> rcases mkTr_two (t := ys.getD i zTerm) (x := den ys (ys.getD i zTerm).a.toNat) (y := den ys (ys.getD i zTerm).b.toNat) hk with e2 | e2 <;> rw [e1, e2] at he <;> simp only [Tr.two.injEq] at he <;> obtain ⟨_, f1, f2⟩ := he <;> rcases ej with ej | ej <;> rw [ej] <;> first | exact .inl f1 | exact .inr f2 | exact .inl f2 | exact .inr f1
      rcases wa with wa | wa
      · exact ⟨_, by omega, wa⟩
      · exact ⟨_, by omega, wa⟩

/-- A term moved into nothing. -/
theorem mv_first {fr : List T4} {x : Nat} (hv : tfC fr = 0) (hx : x < fr.length) {M : Mv} (hM : mvR fr (prL fr x) (fun _ => 0) [] = M) : M.c = 0 ∧ Nice M.tb ∧ M.tb.length ≤ 400 ∧ Leads fr M.tb M.pl x := by
  have N := names_of (tfC_ahead hv)
  have hl := prL_len fr x
  have h4 := (tfC_zero hv).1
  rcases mvd_run hv hx _ 0 (fun _ => 0) [] rfl (Nat.zero_le _) (Mvd.start Nice.nil) M (by rw [List.drop_zero]; exact hM) with ⟨h1, h2⟩ | ⟨h1, ⟨k, hk, h2⟩, _⟩
  · obtain ⟨ys, hy1, hy2⟩ := h2.pre
    refine ⟨h1, h2.nice, by rw [hy1]; simp; omega, h2.leads _ ?_⟩
    rw [List.take_length]
    exact (prL_mem N hx).2 ⟨x, rfl, .top⟩
  · simp at h2; omega

/-- Two terms are the same where, moved into one table, they come to one place of it, and the second puts nothing behind. -/
theorem mv_same {fa fb : List T4} {x y : Nat} (ha : tfC fa = 0) (hx : x < fa.length) (hb : tfC fb = 0) (hy : y < fb.length) {M1 M2 : Mv} (h1 : mvR fa (prL fa x) (fun _ => 0) [] = M1) (h2 : mvR fb (prL fb y) (fun _ => 0) M1.tb = M2) :
    (M2.c = 0 ∧ M2.pl y = M1.pl x ∧ M2.tb.length = M1.tb.length) ↔ den fa x = den fb y := by
  obtain ⟨c1, N1, _, L1⟩ := mv_first ha hx h1
  obtain ⟨_, _, l3, l4, l5⟩ := L1
  rw [Int.toNat_natCast] at l5
  have N := names_of (tfC_ahead hb)
  have hym : (y : Int) ∈ prL fb y := (prL_mem N hy).2 ⟨y, rfl, .top⟩
  have R := mvd_run hb hy _ 0 (fun _ => 0) M1.tb rfl (Nat.zero_le _) (Mvd.start N1) M2 (by rw [List.drop_zero]; exact h2)
  constructor
  · rintro ⟨e1, e2, _⟩
    rcases R with ⟨_, R⟩ | ⟨e, _, _⟩
    · obtain ⟨_, _, k3, k4, k5⟩ := R.leads (y : Int) (by rw [List.take_length]; exact hym)
      obtain ⟨ys, hys, _⟩ := R.pre
      rw [Int.toNat_natCast, e2, hys, den_app _ _ _ (by omega), l5] at k5
      exact k5
    · omega
  · intro e
    have hall : ∀ z ∈ prL fb y, ∃ p, p < M1.tb.length ∧ den M1.tb p = den fb z.toNat := by
      intro z hz
      obtain ⟨i, rfl, hi⟩ := (prL_mem N hy).1 hz
      rw [Int.toNat_natCast]
      exact den_sub N1.ahead (tfC_ahead hb) (p := (M1.pl x).toNat) (by omega) hy (by rw [l5, e]) hi
    rcases R with ⟨e1, R⟩ | ⟨_, _, h⟩
    · have es := R.same hall
      obtain ⟨_, _, k3, k4, k5⟩ := R.leads (y : Int) (by rw [List.take_length]; exact hym)
      rw [Int.toNat_natCast, es] at k5
      rw [es] at k4
      refine ⟨e1, ?_, by rw [es]⟩
      have := N1.inj (by omega) (by omega) (k5.trans (e.symm.trans l5.symm))
      omega
    · exact absurd hall h

end Go.Proofs.YthjaehcfakjemaaDoor

/- withPlaces. -/
namespace Go.Proofs.YthjaehcfakjemaaDoor
open Go.RowKit

set_option maxRecDepth 20000 in
set_option maxHeartbeats 4000000 in
theorem withPlaces_ok (t : T4) (h : 1 ≤ t.o ∧ t.o ≤ 7) (pl : Int → Int) (L : Nat) (c : Option Addr) (d : Nat) (w : World) (hR : Rd .i64 w c (tab L pl)) (ha : 0 < kids t.o → 0 ≤ t.a ∧ t.a < L) (hb : 1 < kids t.o → 0 ≤ t.b ∧ t.b < L) :
    Calls Tryd.prog 48 #[.agg #[.int .i64 t.o, .int .i64 t.a, .int .i64 t.b, .int .i64 t.n], .slice c L d] w fun e w' => ∃ r : T4, r = mvT t pl ∧ e = .returned (.agg #[.int .i64 r.o, .int .i64 r.a, .int .i64 r.b, .int .i64 r.n]) ∧ Below w.heap.size w w' := by
  have q2 := build_t2
  have q3 := build_t3
  have hRl : ∀ i : Nat, i < L → ∃ b o, c = some ⟨b, o, none⟩ ∧ w.cell? ⟨b, o + i, none⟩ = some (.int .i64 (pl i)) := fun i hi => by
    rcases hR with hR | ⟨b, o, rfl, hca⟩
    · have := tab_len L pl; rw [hR] at this; simp at this; omega
    · have := hca i (by rw [tab_len]; exact hi)
      rw [tab_at pl hi] at this
      exact ⟨b, o, rfl, this⟩
  rcases mvT_ways h pl with ⟨h1, hr⟩ | ⟨h1, h2, hr⟩ | ⟨h1, h2, h3, hk, hr⟩ | ⟨h1, h2, h3, h4, hk, hr⟩ | ⟨h1, h2, h3, h4, hk, hr⟩
  · rw [hr]
    obtain ⟨o, a, b, n⟩ := t
    simp only at *
    subst h1
    clear hRl hR ha hb h
    go_enter Tryd.func48, Tryd.ntmps48
    go_wp2
    refine bodyPost_ret (v := .agg #[.int .i64 1, .int .i64 a, .int .i64 b, .int .i64 n]) (by simp [results, Tryd.results48, go_sem]) rfl ⟨⟨1, a, b, n⟩, rfl, rfl, ?_⟩
    repeat' (first | exact Below.refl _ _ | refine Below.alloc ?_ (by simp) _ | refine Below.setCell ?_ (by simp) _ | refine Below.drew ?_)
  · rw [hr]
    obtain ⟨o, a, b, n⟩ := t
    simp only at *
    subst h2
    clear hRl hR ha hb h
    go_enter Tryd.func48, Tryd.ntmps48
    go_wp2
    refine bodyPost_ret (v := .agg #[.int .i64 2, .int .i64 a, .int .i64 b, .int .i64 n]) (by simp [results, Tryd.results48, go_sem]) rfl ⟨⟨2, a, b, n⟩, rfl, rfl, ?_⟩
    repeat' (first | exact Below.refl _ _ | refine Below.alloc ?_ (by simp) _ | refine Below.setCell ?_ (by simp) _ | refine Below.drew ?_)
  · rw [hr]
    obtain ⟨o, a, b, n⟩ := t
    simp only at *
    obtain ⟨a0, a1⟩ := ha (by omega)
    obtain ⟨i, rfl⟩ : ∃ i : Nat, a = (i : Int) := ⟨a.toNat, by omega⟩
    obtain ⟨bl, off, rfl, p0⟩ := hRl i (by omega)
    subst h3
    clear hr hRl hR ha hb h hk
    generalize pl i = v at *
    go_enter Tryd.func48, Tryd.ntmps48
    have B := Below.refl w.heap.size w
    replace B := thenB B (belowA w (.cells #[.int .i64 6, .int .i64 i, .int .i64 b, .int .i64 n] 70))
    have VX := V.new w [.int .i64 6, .int .i64 i, .int .i64 b, .int .i64 n] 70
    replace VX := VX.kept (belowA (w.alloc (.cells #[.int .i64 6, .int .i64 i, .int .i64 b, .int .i64 n] 70)) (.cells #[.int .i64 0, .int .i64 0, .int .i64 0, .int .i64 0] 70))
    replace B := thenB B (belowA (w.alloc (.cells #[.int .i64 6, .int .i64 i, .int .i64 b, .int .i64 n] 70)) (.cells #[.int .i64 0, .int .i64 0, .int .i64 0, .int .i64 0] 70))
    have VR : V ((w.alloc (.cells #[.int .i64 6, .int .i64 i, .int .i64 b, .int .i64 n] 70)).alloc (.cells #[.int .i64 0, .int .i64 0, .int .i64 0, .int .i64 0] 70)) (w.heap.size + 1) [.int .i64 0, .int .i64 0, .int .i64 0, .int .i64 0] := V.newAt _ _ _ _ (by simp)
    obtain ⟨s_VX, f_VX, z_VX⟩ := VX.open
    obtain ⟨s_VR, f_VR, z_VR⟩ := VR.open
    have Bo := B
    have hbl : bl < w.heap.size := World.block_lt_of_cell? _ _ p0
    replace p0 := ((bcell (belowA2 w (.cells #[.int .i64 6, .int .i64 i, .int .i64 b, .int .i64 n] 70) (.cells #[.int .i64 0, .int .i64 0, .int .i64 0, .int .i64 0] 70))).1 bl (off + i) hbl).trans p0
    have hi2 : i < L := by omega
    clear s_VX f_VX z_VX s_VR f_VR z_VR
    have K : ∀ w' : World, Below ((w.alloc (.cells #[.int .i64 6, .int .i64 i, .int .i64 b, .int .i64 n] 70)).alloc (.cells #[.int .i64 0, .int .i64 0, .int .i64 0, .int .i64 0] 70)).heap.size ((w.alloc (.cells #[.int .i64 6, .int .i64 i, .int .i64 b, .int .i64 n] 70)).alloc (.cells #[.int .i64 0, .int .i64 0, .int .i64 0, .int .i64 0] 70)) w' → (w'.cell? ⟨w.heap.size, 0, none⟩ = some (.int .i64 6) ∧ w'.cell? ⟨w.heap.size, 1, none⟩ = some (.int .i64 i) ∧ w'.cell? ⟨w.heap.size, 2, none⟩ = some (.int .i64 b) ∧ w'.cell? ⟨w.heap.size, 3, none⟩ = some (.int .i64 n) ∧ w'.cell? ⟨bl, off + i, none⟩ = some (.int .i64 v)) := fun w' h => ⟨(VX.kept h).2.1 0 (by simp), (VX.kept h).2.1 1 (by simp), (VX.kept h).2.1 2 (by simp), (VX.kept h).2.1 3 (by simp), ((bcell h).1 _ _ (by simp only [World.size_alloc]; omega)).trans p0⟩
    have K := Hid.mk K
    obtain ⟨s_VX, f_VX, z_VX⟩ := VX.open
    obtain ⟨s_VR, f_VR, z_VR⟩ := VR.open
    go_wp2_with fail
    clear s_VX f_VX z_VX s_VR f_VR z_VR
    refine wp_region_held_drew (S := (fun w' => w'.cell? ⟨w.heap.size, 0, none⟩ = some (.int .i64 6) ∧ w'.cell? ⟨w.heap.size, 1, none⟩ = some (.int .i64 i) ∧ w'.cell? ⟨w.heap.size, 2, none⟩ = some (.int .i64 b) ∧ w'.cell? ⟨w.heap.size, 3, none⟩ = some (.int .i64 n) ∧ w'.cell? ⟨bl, off + i, none⟩ = some (.int .i64 v))) (by kernel_rfl) (K.out _ (Below.refl _ _).drew) (fun hHeld => ?_)
    refine wpAnyH_take (i := 0) (oi := _) (v := ?vg1u1) rfl (by kernel_rfl) (by kernel_rfl) (by kernel_rfl) (fun _ _ _ h => h) (Or.inl ⟨by rfl, ?hyg1u1⟩) hHeld ?restg1u1
    case hyg1u1 => (intro w hSw; (try dsimp only at hSw); go_simp; first | done | with_reducible rfl)
    try simp only [Act.put, List.getElem_toArray, List.getElem_cons_zero, List.setIfInBounds_toArray, List.set_cons_zero, List.set_cons_succ]
    refine wpAnyH_take (i := 1) (oi := _) (v := ?vg1u2) rfl (by kernel_rfl) (by kernel_rfl) (by kernel_rfl) (fun _ _ _ h => h) (Or.inl ⟨by rfl, ?hyg1u2⟩) hHeld ?restg1u2
    case hyg1u2 => (intro w hSw; (try dsimp only at hSw); go_simp; first | done | with_reducible rfl)
    try simp only [Act.put, List.getElem_toArray, List.getElem_cons_zero, List.getElem_cons_succ, List.setIfInBounds_toArray, List.set_cons_zero, List.set_cons_succ]
    refine wpAnyH_take (i := 2) (oi := _) (v := ?vg1u3) rfl (by kernel_rfl) (by kernel_rfl) (by kernel_rfl) (fun _ _ _ h => h) (Or.inl ⟨by rfl, ?hyg1u3⟩) hHeld ?restg1u3
    case hyg1u3 => (intro w hSw; (try dsimp only at hSw); go_simp; first | done | with_reducible rfl)
    try simp only [Act.put, List.getElem_toArray, List.getElem_cons_zero, List.getElem_cons_succ, List.setIfInBounds_toArray, List.set_cons_zero, List.set_cons_succ]
    refine wpAnyH_take (i := 3) (oi := _) (v := ?vg1u4) rfl (by kernel_rfl) (by kernel_rfl) (by kernel_rfl) (fun _ _ _ h => h) (Or.inl ⟨by rfl, ?hyg1u4⟩) hHeld ?restg1u4
    case hyg1u4 => (intro w hSw; (try dsimp only at hSw); go_simp; first | done | with_reducible rfl)
    try simp only [Act.put, List.getElem_toArray, List.getElem_cons_zero, List.getElem_cons_succ, List.setIfInBounds_toArray, List.set_cons_zero, List.set_cons_succ]
    refine wpAnyH_take (i := 4) (oi := _) (v := ?vg1u5) rfl (by kernel_rfl) (by kernel_rfl) (by kernel_rfl) (fun _ _ _ h => h) (Or.inl ⟨by rfl, ?hyg1u5⟩) hHeld ?restg1u5
    case hyg1u5 => (intro w hSw; (try dsimp only at hSw); go_simp; first | done | with_reducible rfl)
    try simp only [Act.put, List.getElem_toArray, List.getElem_cons_zero, List.getElem_cons_succ, List.setIfInBounds_toArray, List.set_cons_zero, List.set_cons_succ]
    refine wpAnyH_take (i := 5) (oi := _) (v := ?vg1u6) rfl (by kernel_rfl) (by kernel_rfl) (by kernel_rfl) (fun _ _ _ h => h) (Or.inl ⟨by rfl, ?hyg1u6⟩) hHeld ?restg1u6
    case hyg1u6 => (intro w hSw; (try dsimp only at hSw); go_simp; first | done | with_reducible rfl)
    try simp only [Act.put, List.getElem_toArray, List.getElem_cons_zero, List.getElem_cons_succ, List.setIfInBounds_toArray, List.set_cons_zero, List.set_cons_succ]
    refine wpAnyH_take (i := 6) (oi := _) (v := ?vg1u7) rfl (by kernel_rfl) (by kernel_rfl) (by kernel_rfl) (fun _ _ _ h => h) (Or.inl ⟨by rfl, ?hyg1u7⟩) hHeld ?restg1u7
    case hyg1u7 => (intro w hSw; (try dsimp only at hSw); go_simp; first | done | with_reducible rfl)
    try simp only [Act.put, List.getElem_toArray, List.getElem_cons_zero, List.getElem_cons_succ, List.setIfInBounds_toArray, List.set_cons_zero, List.set_cons_succ]
    refine wpAnyH_take (i := 7) (oi := _) (v := ?vg1u8) rfl (by kernel_rfl) (by kernel_rfl) (by kernel_rfl) (fun _ _ _ h => h) (Or.inl ⟨by rfl, ?hyg1u8⟩) hHeld ?restg1u8
    case hyg1u8 => (intro w hSw; (try dsimp only at hSw); go_simp; first | done | with_reducible rfl)
    try simp only [Act.put, List.getElem_toArray, List.getElem_cons_zero, List.getElem_cons_succ, List.setIfInBounds_toArray, List.set_cons_zero, List.set_cons_succ]
    have bacc : Below ((w.alloc (.cells #[.int .i64 6, .int .i64 i, .int .i64 b, .int .i64 n] 70)).alloc (.cells #[.int .i64 0, .int .i64 0, .int .i64 0, .int .i64 0] 70)).heap.size ((w.alloc (.cells #[.int .i64 6, .int .i64 i, .int .i64 b, .int .i64 n] 70)).alloc (.cells #[.int .i64 0, .int .i64 0, .int .i64 0, .int .i64 0] 70)) _ := (Below.refl _ _).drew
    replace VX := VX.kept bacc
    replace VR := VR.kept bacc
    replace B := thenB B bacc
    have Sz1 := bacc.size
    simp only [World.size_alloc] at Sz1
    have HT := Hid.mk VR.there
    have VF := VR.filled [.int .i64 6, .int .i64 v, .int .i64 0, .int .i64 0] rfl
    have KA : (World.setCells (((w.alloc (.cells #[.int .i64 6, .int .i64 i, .int .i64 b, .int .i64 n] 70)).alloc (.cells #[.int .i64 0, .int .i64 0, .int .i64 0, .int .i64 0] 70)).drew) (w.heap.size + 1) 0 [.int .i64 6, .int .i64 v, .int .i64 0, .int .i64 0]).cell? ⟨w.heap.size, 0, none⟩ = some (.int .i64 6) ∧ (World.setCells (((w.alloc (.cells #[.int .i64 6, .int .i64 i, .int .i64 b, .int .i64 n] 70)).alloc (.cells #[.int .i64 0, .int .i64 0, .int .i64 0, .int .i64 0] 70)).drew) (w.heap.size + 1) 0 [.int .i64 6, .int .i64 v, .int .i64 0, .int .i64 0]).cell? ⟨w.heap.size, 1, none⟩ = some (.int .i64 i) ∧ (World.setCells (((w.alloc (.cells #[.int .i64 6, .int .i64 i, .int .i64 b, .int .i64 n] 70)).alloc (.cells #[.int .i64 0, .int .i64 0, .int .i64 0, .int .i64 0] 70)).drew) (w.heap.size + 1) 0 [.int .i64 6, .int .i64 v, .int .i64 0, .int .i64 0]).cell? ⟨w.heap.size, 2, none⟩ = some (.int .i64 b) ∧ (World.setCells (((w.alloc (.cells #[.int .i64 6, .int .i64 i, .int .i64 b, .int .i64 n] 70)).alloc (.cells #[.int .i64 0, .int .i64 0, .int .i64 0, .int .i64 0] 70)).drew) (w.heap.size + 1) 0 [.int .i64 6, .int .i64 v, .int .i64 0, .int .i64 0]).cell? ⟨w.heap.size, 3, none⟩ = some (.int .i64 n) ∧ (World.setCells (((w.alloc (.cells #[.int .i64 6, .int .i64 i, .int .i64 b, .int .i64 n] 70)).alloc (.cells #[.int .i64 0, .int .i64 0, .int .i64 0, .int .i64 0] 70)).drew) (w.heap.size + 1) 0 [.int .i64 6, .int .i64 v, .int .i64 0, .int .i64 0]).cell? ⟨bl, off + i, none⟩ = some (.int .i64 v) := ⟨(VX.apart (B := w.heap.size + 1) (by first | omega | (simp; omega)) 0 [.int .i64 6, .int .i64 v, .int .i64 0, .int .i64 0]).2.1 0 (by simp), (VX.apart (B := w.heap.size + 1) (by first | omega | (simp; omega)) 0 [.int .i64 6, .int .i64 v, .int .i64 0, .int .i64 0]).2.1 1 (by simp), (VX.apart (B := w.heap.size + 1) (by first | omega | (simp; omega)) 0 [.int .i64 6, .int .i64 v, .int .i64 0, .int .i64 0]).2.1 2 (by simp), (VX.apart (B := w.heap.size + 1) (by first | omega | (simp; omega)) 0 [.int .i64 6, .int .i64 v, .int .i64 0, .int .i64 0]).2.1 3 (by simp), (cells_far (by omega) 0 [.int .i64 6, .int .i64 v, .int .i64 0, .int .i64 0]).trans (((bcell bacc).1 _ _ (by simp only [World.size_alloc]; omega)).trans p0)⟩
    have BR := belowCells B (show w.heap.size ≤ w.heap.size + 1 by (first | omega | (simp; done) | (simp; omega))) 0 [.int .i64 6, .int .i64 v, .int .i64 0, .int .i64 0]
    obtain ⟨w6, hw6⟩ : ∃ w6, World.setCells (((w.alloc (.cells #[.int .i64 6, .int .i64 i, .int .i64 b, .int .i64 n] 70)).alloc (.cells #[.int .i64 0, .int .i64 0, .int .i64 0, .int .i64 0] 70)).drew) (w.heap.size + 1) 0 [.int .i64 6, .int .i64 v, .int .i64 0, .int .i64 0] = w6 := ⟨_, rfl⟩
    rw [hw6] at VF BR KA
    replace hw6 := Hid.mk hw6
    replace VF := Hid.mk VF
    replace KA := Hid.mk KA
    replace BR := Hid.mk BR
    refine wpAnyH_ready (rs := [8]) (by kernel_rfl) (by simp) ?_
    refine AllReadyH.cons (o := _) rfl (fun K0 hK0 => ?_) AllReadyH.nil
    rw [if_pos (by rfl)]
    refine wp_stroke w6 70 _ _ rfl (w.heap.size + 1) 0 #[.int .i64 6, .int .i64 v, .int .i64 0, .int .i64 0] rfl rfl HT.out (by kernel_rfl) (by kernel_rfl) hw6.out ?_
    refine hK0.out _ _ KA.out (fun hHeld => ?_)
    clear hK0 K0 hHeld KA HT
    refine wpAnyH_done (by kernel_rfl) ?_ _
    go_wp2
    refine bodyPost_ret (v := .agg #[.int .i64 6, .int .i64 v, .int .i64 0, .int .i64 0]) (results_row Tryd.results48 _ _ (w.heap.size + 1) [.int .i64 6, .int .i64 v, .int .i64 0, .int .i64 0] _ rfl VF.out Tryd.underlying70 rfl (by kernel_rfl)) rfl ⟨⟨6, v, 0, 0⟩, rfl, rfl, BR.out⟩
  · rw [hr]
    obtain ⟨o, a, b, n⟩ := t
    simp only at *
    obtain ⟨a0, a1⟩ := ha (by omega)
    obtain ⟨i, rfl⟩ : ∃ i : Nat, a = (i : Int) := ⟨a.toNat, by omega⟩
    obtain ⟨bl, off, rfl, p0⟩ := hRl i (by omega)
    obtain ⟨b0, b1⟩ := hb (by omega)
    obtain ⟨j, rfl⟩ : ∃ j : Nat, b = (j : Int) := ⟨b.toNat, by omega⟩
    obtain ⟨bl', off', e9, p1⟩ := hRl j (by omega)
    simp only [Option.some.injEq, Addr.mk.injEq, and_true] at e9
    obtain ⟨rfl, rfl⟩ := e9
    subst h4
    clear hr hRl hR ha hb h hk
    generalize pl i = v at *
    generalize pl j = u at *
    have CB := Hid.mk (bothOf_ok v u)
    generalize min v u = v' at *
    generalize max v u = u' at *
    go_enter Tryd.func48, Tryd.ntmps48
    have B := Below.refl w.heap.size w
    replace B := thenB B (belowA w (.cells #[.int .i64 7, .int .i64 i, .int .i64 j, .int .i64 n] 70))
    have VX := V.new w [.int .i64 7, .int .i64 i, .int .i64 j, .int .i64 n] 70
    replace VX := VX.kept (belowA (w.alloc (.cells #[.int .i64 7, .int .i64 i, .int .i64 j, .int .i64 n] 70)) (.cells #[.int .i64 0, .int .i64 0, .int .i64 0, .int .i64 0] 70))
    replace B := thenB B (belowA (w.alloc (.cells #[.int .i64 7, .int .i64 i, .int .i64 j, .int .i64 n] 70)) (.cells #[.int .i64 0, .int .i64 0, .int .i64 0, .int .i64 0] 70))
    have VR : V ((w.alloc (.cells #[.int .i64 7, .int .i64 i, .int .i64 j, .int .i64 n] 70)).alloc (.cells #[.int .i64 0, .int .i64 0, .int .i64 0, .int .i64 0] 70)) (w.heap.size + 1) [.int .i64 0, .int .i64 0, .int .i64 0, .int .i64 0] := V.newAt _ _ _ _ (by simp)
    obtain ⟨s_VX, f_VX, z_VX⟩ := VX.open
    obtain ⟨s_VR, f_VR, z_VR⟩ := VR.open
    have Bo := B
    have hbl : bl < w.heap.size := World.block_lt_of_cell? _ _ p0
    replace p0 := ((bcell (belowA2 w (.cells #[.int .i64 7, .int .i64 i, .int .i64 j, .int .i64 n] 70) (.cells #[.int .i64 0, .int .i64 0, .int .i64 0, .int .i64 0] 70))).1 bl (off + i) hbl).trans p0
    replace p1 := ((bcell (belowA2 w (.cells #[.int .i64 7, .int .i64 i, .int .i64 j, .int .i64 n] 70) (.cells #[.int .i64 0, .int .i64 0, .int .i64 0, .int .i64 0] 70))).1 bl (off + j) hbl).trans p1
    have hi2 : i < L := by omega
    have hj2 : j < L := by omega
    clear s_VX f_VX z_VX s_VR f_VR z_VR
    have K : ∀ w' : World, Below ((w.alloc (.cells #[.int .i64 7, .int .i64 i, .int .i64 j, .int .i64 n] 70)).alloc (.cells #[.int .i64 0, .int .i64 0, .int .i64 0, .int .i64 0] 70)).heap.size ((w.alloc (.cells #[.int .i64 7, .int .i64 i, .int .i64 j, .int .i64 n] 70)).alloc (.cells #[.int .i64 0, .int .i64 0, .int .i64 0, .int .i64 0] 70)) w' → (w'.cell? ⟨w.heap.size, 0, none⟩ = some (.int .i64 7) ∧ w'.cell? ⟨w.heap.size, 1, none⟩ = some (.int .i64 i) ∧ w'.cell? ⟨w.heap.size, 2, none⟩ = some (.int .i64 j) ∧ w'.cell? ⟨w.heap.size, 3, none⟩ = some (.int .i64 n) ∧ w'.cell? ⟨bl, off + i, none⟩ = some (.int .i64 v) ∧ w'.cell? ⟨bl, off + j, none⟩ = some (.int .i64 u)) := fun w' h => ⟨(VX.kept h).2.1 0 (by simp), (VX.kept h).2.1 1 (by simp), (VX.kept h).2.1 2 (by simp), (VX.kept h).2.1 3 (by simp), ((bcell h).1 _ _ (by simp only [World.size_alloc]; omega)).trans p0, ((bcell h).1 _ _ (by simp only [World.size_alloc]; omega)).trans p1⟩
    have K := Hid.mk K
    obtain ⟨s_VX, f_VX, z_VX⟩ := VX.open
    obtain ⟨s_VR, f_VR, z_VR⟩ := VR.open
    go_wp2_with fail
    clear s_VX f_VX z_VX s_VR f_VR z_VR
    refine wp_region_held_drew (S := (fun w' => w'.cell? ⟨w.heap.size, 0, none⟩ = some (.int .i64 7) ∧ w'.cell? ⟨w.heap.size, 1, none⟩ = some (.int .i64 i) ∧ w'.cell? ⟨w.heap.size, 2, none⟩ = some (.int .i64 j) ∧ w'.cell? ⟨w.heap.size, 3, none⟩ = some (.int .i64 n) ∧ w'.cell? ⟨bl, off + i, none⟩ = some (.int .i64 v) ∧ w'.cell? ⟨bl, off + j, none⟩ = some (.int .i64 u))) (by kernel_rfl) (K.out _ (Below.refl _ _).drew) (fun hHeld => ?_)
    refine wpAnyH_take (i := 0) (oi := _) (v := ?vg21u1) rfl (by kernel_rfl) (by kernel_rfl) (by kernel_rfl) (fun _ _ _ h => h) (Or.inl ⟨by rfl, ?hyg21u1⟩) hHeld ?restg21u1
    case hyg21u1 => (intro w hSw; (try dsimp only at hSw); go_simp; first | done | with_reducible rfl)
    try simp only [Act.put, List.getElem_toArray, List.getElem_cons_zero, List.setIfInBounds_toArray, List.set_cons_zero, List.set_cons_succ]
    refine wpAnyH_take (i := 1) (oi := _) (v := ?vg21u2) rfl (by kernel_rfl) (by kernel_rfl) (by kernel_rfl) (fun _ _ _ h => h) (Or.inl ⟨by rfl, ?hyg21u2⟩) hHeld ?restg21u2
    case hyg21u2 => (intro w hSw; (try dsimp only at hSw); go_simp; first | done | with_reducible rfl)
    try simp only [Act.put, List.getElem_toArray, List.getElem_cons_zero, List.getElem_cons_succ, List.setIfInBounds_toArray, List.set_cons_zero, List.set_cons_succ]
    refine wpAnyH_take (i := 2) (oi := _) (v := ?vg21u3) rfl (by kernel_rfl) (by kernel_rfl) (by kernel_rfl) (fun _ _ _ h => h) (Or.inl ⟨by rfl, ?hyg21u3⟩) hHeld ?restg21u3
    case hyg21u3 => (intro w hSw; (try dsimp only at hSw); go_simp; first | done | with_reducible rfl)
    try simp only [Act.put, List.getElem_toArray, List.getElem_cons_zero, List.getElem_cons_succ, List.setIfInBounds_toArray, List.set_cons_zero, List.set_cons_succ]
    refine wpAnyH_take (i := 3) (oi := _) (v := ?vg21u4) rfl (by kernel_rfl) (by kernel_rfl) (by kernel_rfl) (fun _ _ _ h => h) (Or.inl ⟨by rfl, ?hyg21u4⟩) hHeld ?restg21u4
    case hyg21u4 => (intro w hSw; (try dsimp only at hSw); go_simp; first | done | with_reducible rfl)
    try simp only [Act.put, List.getElem_toArray, List.getElem_cons_zero, List.getElem_cons_succ, List.setIfInBounds_toArray, List.set_cons_zero, List.set_cons_succ]
    refine wpAnyH_take (i := 4) (oi := _) (v := ?vg21u5) rfl (by kernel_rfl) (by kernel_rfl) (by kernel_rfl) (fun _ _ _ h => h) (Or.inl ⟨by rfl, ?hyg21u5⟩) hHeld ?restg21u5
    case hyg21u5 => (intro w hSw; (try dsimp only at hSw); go_simp; first | done | with_reducible rfl)
    try simp only [Act.put, List.getElem_toArray, List.getElem_cons_zero, List.getElem_cons_succ, List.setIfInBounds_toArray, List.set_cons_zero, List.set_cons_succ]
    refine wpAnyH_take (i := 5) (oi := _) (v := ?vg21u6) rfl (by kernel_rfl) (by kernel_rfl) (by kernel_rfl) (fun _ _ _ h => h) (Or.inl ⟨by rfl, ?hyg21u6⟩) hHeld ?restg21u6
    case hyg21u6 => (intro w hSw; (try dsimp only at hSw); go_simp; first | done | with_reducible rfl)
    try simp only [Act.put, List.getElem_toArray, List.getElem_cons_zero, List.getElem_cons_succ, List.setIfInBounds_toArray, List.set_cons_zero, List.set_cons_succ]
    refine wpAnyH_take (i := 6) (oi := _) (v := ?vg21u7) rfl (by kernel_rfl) (by kernel_rfl) (by kernel_rfl) (fun _ _ _ h => h) (Or.inl ⟨by rfl, ?hyg21u7⟩) hHeld ?restg21u7
    case hyg21u7 => (intro w hSw; (try dsimp only at hSw); go_simp; first | done | with_reducible rfl)
    try simp only [Act.put, List.getElem_toArray, List.getElem_cons_zero, List.getElem_cons_succ, List.setIfInBounds_toArray, List.set_cons_zero, List.set_cons_succ]
    refine wpAnyH_take (i := 7) (oi := _) (v := ?vg21u8) rfl (by kernel_rfl) (by kernel_rfl) (by kernel_rfl) (fun _ _ _ h => h) (Or.inl ⟨by rfl, ?hyg21u8⟩) hHeld ?restg21u8
    case hyg21u8 => (intro w hSw; (try dsimp only at hSw); go_simp; first | done | with_reducible rfl)
    try simp only [Act.put, List.getElem_toArray, List.getElem_cons_zero, List.getElem_cons_succ, List.setIfInBounds_toArray, List.set_cons_zero, List.set_cons_succ]
    refine wpAnyH_take (i := 8) (oi := _) (v := ?vg21u9) rfl (by kernel_rfl) (by kernel_rfl) (by kernel_rfl) (fun _ _ _ h => h) (Or.inl ⟨by rfl, ?hyg21u9⟩) hHeld ?restg21u9
    case hyg21u9 => (intro w hSw; (try dsimp only at hSw); go_simp; first | done | with_reducible rfl)
    try simp only [Act.put, List.getElem_toArray, List.getElem_cons_zero, List.getElem_cons_succ, List.setIfInBounds_toArray, List.set_cons_zero, List.set_cons_succ]
    refine wpAnyH_take (i := 9) (oi := _) (v := ?vg21u10) rfl (by kernel_rfl) (by kernel_rfl) (by kernel_rfl) (fun _ _ _ h => h) (Or.inl ⟨by rfl, ?hyg21u10⟩) hHeld ?restg21u10
    case hyg21u10 => (intro w hSw; (try dsimp only at hSw); go_simp; first | done | with_reducible rfl)
    try simp only [Act.put, List.getElem_toArray, List.getElem_cons_zero, List.getElem_cons_succ, List.setIfInBounds_toArray, List.set_cons_zero, List.set_cons_succ]
    refine wpAnyH_ready (rs := [10]) (by kernel_rfl) (by simp) ?_
    refine AllReadyH.cons (o := _) rfl (fun K0 hK0 => ?_) AllReadyH.nil
    go_simp
    go_at_call 69
    refine (CB.out _).mono ?_
    rintro e wg21v11 ⟨rfl, bg21v11⟩
    refine hK0.out _ _ (K.out _ (thenB (Below.refl _ _).drew bg21v11)) (fun hHeld => ?_)
    clear hK0 K0
    try simp only [Act.put, List.getElem_toArray, List.getElem_cons_zero, List.getElem_cons_succ, List.setIfInBounds_toArray, List.set_cons_zero, List.set_cons_succ]
    have bacc : Below ((w.alloc (.cells #[.int .i64 7, .int .i64 i, .int .i64 j, .int .i64 n] 70)).alloc (.cells #[.int .i64 0, .int .i64 0, .int .i64 0, .int .i64 0] 70)).heap.size ((w.alloc (.cells #[.int .i64 7, .int .i64 i, .int .i64 j, .int .i64 n] 70)).alloc (.cells #[.int .i64 0, .int .i64 0, .int .i64 0, .int .i64 0] 70)) _ := (thenB (Below.refl _ _).drew bg21v11)
    replace VX := VX.kept bacc
    replace VR := VR.kept bacc
    replace B := thenB B bacc
    have Sz21 := bacc.size
    simp only [World.size_alloc] at Sz21
    have HT := Hid.mk VR.there
    have VF := VR.filled [.int .i64 7, .int .i64 v', .int .i64 u', .int .i64 0] rfl
    have KA : (World.setCells wg21v11 (w.heap.size + 1) 0 [.int .i64 7, .int .i64 v', .int .i64 u', .int .i64 0]).cell? ⟨w.heap.size, 0, none⟩ = some (.int .i64 7) ∧ (World.setCells wg21v11 (w.heap.size + 1) 0 [.int .i64 7, .int .i64 v', .int .i64 u', .int .i64 0]).cell? ⟨w.heap.size, 1, none⟩ = some (.int .i64 i) ∧ (World.setCells wg21v11 (w.heap.size + 1) 0 [.int .i64 7, .int .i64 v', .int .i64 u', .int .i64 0]).cell? ⟨w.heap.size, 2, none⟩ = some (.int .i64 j) ∧ (World.setCells wg21v11 (w.heap.size + 1) 0 [.int .i64 7, .int .i64 v', .int .i64 u', .int .i64 0]).cell? ⟨w.heap.size, 3, none⟩ = some (.int .i64 n) ∧ (World.setCells wg21v11 (w.heap.size + 1) 0 [.int .i64 7, .int .i64 v', .int .i64 u', .int .i64 0]).cell? ⟨bl, off + i, none⟩ = some (.int .i64 v) ∧ (World.setCells wg21v11 (w.heap.size + 1) 0 [.int .i64 7, .int .i64 v', .int .i64 u', .int .i64 0]).cell? ⟨bl, off + j, none⟩ = some (.int .i64 u) := ⟨(VX.apart (B := w.heap.size + 1) (by first | omega | (simp; omega)) 0 [.int .i64 7, .int .i64 v', .int .i64 u', .int .i64 0]).2.1 0 (by simp), (VX.apart (B := w.heap.size + 1) (by first | omega | (simp; omega)) 0 [.int .i64 7, .int .i64 v', .int .i64 u', .int .i64 0]).2.1 1 (by simp), (VX.apart (B := w.heap.size + 1) (by first | omega | (simp; omega)) 0 [.int .i64 7, .int .i64 v', .int .i64 u', .int .i64 0]).2.1 2 (by simp), (VX.apart (B := w.heap.size + 1) (by first | omega | (simp; omega)) 0 [.int .i64 7, .int .i64 v', .int .i64 u', .int .i64 0]).2.1 3 (by simp), (cells_far (by omega) 0 [.int .i64 7, .int .i64 v', .int .i64 u', .int .i64 0]).trans (((bcell bacc).1 _ _ (by simp only [World.size_alloc]; omega)).trans p0), (cells_far (by omega) 0 [.int .i64 7, .int .i64 v', .int .i64 u', .int .i64 0]).trans (((bcell bacc).1 _ _ (by simp only [World.size_alloc]; omega)).trans p1)⟩
    have BR := belowCells B (show w.heap.size ≤ w.heap.size + 1 by (first | omega | (simp; done) | (simp; omega))) 0 [.int .i64 7, .int .i64 v', .int .i64 u', .int .i64 0]
    obtain ⟨w6, hw6⟩ : ∃ w6, World.setCells wg21v11 (w.heap.size + 1) 0 [.int .i64 7, .int .i64 v', .int .i64 u', .int .i64 0] = w6 := ⟨_, rfl⟩
    rw [hw6] at VF BR KA
    replace hw6 := Hid.mk hw6
    replace VF := Hid.mk VF
    replace KA := Hid.mk KA
    replace BR := Hid.mk BR
    refine wpAnyH_ready (rs := [11]) (by kernel_rfl) (by simp) ?_
    refine AllReadyH.cons (o := _) rfl (fun K0 hK0 => ?_) AllReadyH.nil
    rw [if_pos (by rfl)]
    refine wp_stroke w6 70 _ _ rfl (w.heap.size + 1) 0 #[.int .i64 7, .int .i64 v', .int .i64 u', .int .i64 0] rfl rfl HT.out (by kernel_rfl) (by kernel_rfl) hw6.out ?_
    refine hK0.out _ _ KA.out (fun hHeld => ?_)
    clear hK0 K0 hHeld KA HT
    refine wpAnyH_done (by kernel_rfl) ?_ _
    go_wp2
    refine bodyPost_ret (v := .agg #[.int .i64 7, .int .i64 v', .int .i64 u', .int .i64 0]) (results_row Tryd.results48 _ _ (w.heap.size + 1) [.int .i64 7, .int .i64 v', .int .i64 u', .int .i64 0] _ rfl VF.out Tryd.underlying70 rfl (by kernel_rfl)) rfl ⟨⟨7, v', u', 0⟩, rfl, rfl, BR.out⟩
  · rw [hr]
    obtain ⟨o, a, b, n⟩ := t
    simp only at *
    obtain ⟨a0, a1⟩ := ha (by omega)
    obtain ⟨i, rfl⟩ : ∃ i : Nat, a = (i : Int) := ⟨a.toNat, by omega⟩
    obtain ⟨bl, off, rfl, p0⟩ := hRl i (by omega)
    obtain ⟨b0, b1⟩ := hb (by omega)
    obtain ⟨j, rfl⟩ : ∃ j : Nat, b = (j : Int) := ⟨b.toNat, by omega⟩
    obtain ⟨bl', off', e9, p1⟩ := hRl j (by omega)
    simp only [Option.some.injEq, Addr.mk.injEq, and_true] at e9
    obtain ⟨rfl, rfl⟩ := e9
    clear hr hRl hR ha hb h hk
    generalize pl i = v at *
    generalize pl j = u at *
    go_enter Tryd.func48, Tryd.ntmps48
    have B := Below.refl w.heap.size w
    replace B := thenB B (belowA w (.cells #[.int .i64 o, .int .i64 i, .int .i64 j, .int .i64 n] 70))
    have VX := V.new w [.int .i64 o, .int .i64 i, .int .i64 j, .int .i64 n] 70
    replace VX := VX.kept (belowA (w.alloc (.cells #[.int .i64 o, .int .i64 i, .int .i64 j, .int .i64 n] 70)) (.cells #[.int .i64 0, .int .i64 0, .int .i64 0, .int .i64 0] 70))
    replace B := thenB B (belowA (w.alloc (.cells #[.int .i64 o, .int .i64 i, .int .i64 j, .int .i64 n] 70)) (.cells #[.int .i64 0, .int .i64 0, .int .i64 0, .int .i64 0] 70))
    have VR : V ((w.alloc (.cells #[.int .i64 o, .int .i64 i, .int .i64 j, .int .i64 n] 70)).alloc (.cells #[.int .i64 0, .int .i64 0, .int .i64 0, .int .i64 0] 70)) (w.heap.size + 1) [.int .i64 0, .int .i64 0, .int .i64 0, .int .i64 0] := V.newAt _ _ _ _ (by simp)
    obtain ⟨s_VX, f_VX, z_VX⟩ := VX.open
    obtain ⟨s_VR, f_VR, z_VR⟩ := VR.open
    have Bo := B
    have hbl : bl < w.heap.size := World.block_lt_of_cell? _ _ p0
    replace p0 := ((bcell (belowA2 w (.cells #[.int .i64 o, .int .i64 i, .int .i64 j, .int .i64 n] 70) (.cells #[.int .i64 0, .int .i64 0, .int .i64 0, .int .i64 0] 70))).1 bl (off + i) hbl).trans p0
    replace p1 := ((bcell (belowA2 w (.cells #[.int .i64 o, .int .i64 i, .int .i64 j, .int .i64 n] 70) (.cells #[.int .i64 0, .int .i64 0, .int .i64 0, .int .i64 0] 70))).1 bl (off + j) hbl).trans p1
    have hi2 : i < L := by omega
    have hj2 : j < L := by omega
    clear s_VX f_VX z_VX s_VR f_VR z_VR
    have K : ∀ w' : World, Below ((w.alloc (.cells #[.int .i64 o, .int .i64 i, .int .i64 j, .int .i64 n] 70)).alloc (.cells #[.int .i64 0, .int .i64 0, .int .i64 0, .int .i64 0] 70)).heap.size ((w.alloc (.cells #[.int .i64 o, .int .i64 i, .int .i64 j, .int .i64 n] 70)).alloc (.cells #[.int .i64 0, .int .i64 0, .int .i64 0, .int .i64 0] 70)) w' → (w'.cell? ⟨w.heap.size, 0, none⟩ = some (.int .i64 o) ∧ w'.cell? ⟨w.heap.size, 1, none⟩ = some (.int .i64 i) ∧ w'.cell? ⟨w.heap.size, 2, none⟩ = some (.int .i64 j) ∧ w'.cell? ⟨w.heap.size, 3, none⟩ = some (.int .i64 n) ∧ w'.cell? ⟨bl, off + i, none⟩ = some (.int .i64 v) ∧ w'.cell? ⟨bl, off + j, none⟩ = some (.int .i64 u)) := fun w' h => ⟨(VX.kept h).2.1 0 (by simp), (VX.kept h).2.1 1 (by simp), (VX.kept h).2.1 2 (by simp), (VX.kept h).2.1 3 (by simp), ((bcell h).1 _ _ (by simp only [World.size_alloc]; omega)).trans p0, ((bcell h).1 _ _ (by simp only [World.size_alloc]; omega)).trans p1⟩
    have K := Hid.mk K
    obtain ⟨s_VX, f_VX, z_VX⟩ := VX.open
    obtain ⟨s_VR, f_VR, z_VR⟩ := VR.open
    go_wp2_with fail
    clear s_VX f_VX z_VX s_VR f_VR z_VR
    refine wp_region_held_drew (S := (fun w' => w'.cell? ⟨w.heap.size, 0, none⟩ = some (.int .i64 o) ∧ w'.cell? ⟨w.heap.size, 1, none⟩ = some (.int .i64 i) ∧ w'.cell? ⟨w.heap.size, 2, none⟩ = some (.int .i64 j) ∧ w'.cell? ⟨w.heap.size, 3, none⟩ = some (.int .i64 n) ∧ w'.cell? ⟨bl, off + i, none⟩ = some (.int .i64 v) ∧ w'.cell? ⟨bl, off + j, none⟩ = some (.int .i64 u))) (by kernel_rfl) (K.out _ (Below.refl _ _).drew) (fun hHeld => ?_)
    refine wpAnyH_take (i := 0) (oi := _) (v := ?vg41u1) rfl (by kernel_rfl) (by kernel_rfl) (by kernel_rfl) (fun _ _ _ h => h) (Or.inl ⟨by rfl, ?hyg41u1⟩) hHeld ?restg41u1
    case hyg41u1 => (intro w hSw; (try dsimp only at hSw); go_simp; first | done | with_reducible rfl)
    try simp only [Act.put, List.getElem_toArray, List.getElem_cons_zero, List.setIfInBounds_toArray, List.set_cons_zero, List.set_cons_succ]
    refine wpAnyH_take (i := 1) (oi := _) (v := ?vg41u2) rfl (by kernel_rfl) (by kernel_rfl) (by kernel_rfl) (fun _ _ _ h => h) (Or.inl ⟨by rfl, ?hyg41u2⟩) hHeld ?restg41u2
    case hyg41u2 => (intro w hSw; (try dsimp only at hSw); go_simp; first | done | with_reducible rfl)
    try simp only [Act.put, List.getElem_toArray, List.getElem_cons_zero, List.getElem_cons_succ, List.setIfInBounds_toArray, List.set_cons_zero, List.set_cons_succ]
    refine wpAnyH_take (i := 2) (oi := _) (v := ?vg41u3) rfl (by kernel_rfl) (by kernel_rfl) (by kernel_rfl) (fun _ _ _ h => h) (Or.inl ⟨by rfl, ?hyg41u3⟩) hHeld ?restg41u3
    case hyg41u3 => (intro w hSw; (try dsimp only at hSw); go_simp; first | done | with_reducible rfl)
    try simp only [Act.put, List.getElem_toArray, List.getElem_cons_zero, List.getElem_cons_succ, List.setIfInBounds_toArray, List.set_cons_zero, List.set_cons_succ]
    refine wpAnyH_take (i := 3) (oi := _) (v := ?vg41u4) rfl (by kernel_rfl) (by kernel_rfl) (by kernel_rfl) (fun _ _ _ h => h) (Or.inl ⟨by rfl, ?hyg41u4⟩) hHeld ?restg41u4
    case hyg41u4 => (intro w hSw; (try dsimp only at hSw); go_simp; first | done | with_reducible rfl)
    try simp only [Act.put, List.getElem_toArray, List.getElem_cons_zero, List.getElem_cons_succ, List.setIfInBounds_toArray, List.set_cons_zero, List.set_cons_succ]
    refine wpAnyH_take (i := 4) (oi := _) (v := ?vg41u5) rfl (by kernel_rfl) (by kernel_rfl) (by kernel_rfl) (fun _ _ _ h => h) (Or.inl ⟨by rfl, ?hyg41u5⟩) hHeld ?restg41u5
    case hyg41u5 => (intro w hSw; (try dsimp only at hSw); go_simp; first | done | with_reducible rfl)
    try simp only [Act.put, List.getElem_toArray, List.getElem_cons_zero, List.getElem_cons_succ, List.setIfInBounds_toArray, List.set_cons_zero, List.set_cons_succ]
    refine wpAnyH_take (i := 5) (oi := _) (v := ?vg41u6) rfl (by kernel_rfl) (by kernel_rfl) (by kernel_rfl) (fun _ _ _ h => h) (Or.inl ⟨by rfl, ?hyg41u6⟩) hHeld ?restg41u6
    case hyg41u6 => (intro w hSw; (try dsimp only at hSw); go_simp; first | done | with_reducible rfl)
    try simp only [Act.put, List.getElem_toArray, List.getElem_cons_zero, List.getElem_cons_succ, List.setIfInBounds_toArray, List.set_cons_zero, List.set_cons_succ]
    refine wpAnyH_take (i := 6) (oi := _) (v := ?vg41u7) rfl (by kernel_rfl) (by kernel_rfl) (by kernel_rfl) (fun _ _ _ h => h) (Or.inl ⟨by rfl, ?hyg41u7⟩) hHeld ?restg41u7
    case hyg41u7 => (intro w hSw; (try dsimp only at hSw); go_simp; first | done | with_reducible rfl)
    try simp only [Act.put, List.getElem_toArray, List.getElem_cons_zero, List.getElem_cons_succ, List.setIfInBounds_toArray, List.set_cons_zero, List.set_cons_succ]
    refine wpAnyH_take (i := 7) (oi := _) (v := ?vg41u8) rfl (by kernel_rfl) (by kernel_rfl) (by kernel_rfl) (fun _ _ _ h => h) (Or.inl ⟨by rfl, ?hyg41u8⟩) hHeld ?restg41u8
    case hyg41u8 => (intro w hSw; (try dsimp only at hSw); go_simp; first | done | with_reducible rfl)
    try simp only [Act.put, List.getElem_toArray, List.getElem_cons_zero, List.getElem_cons_succ, List.setIfInBounds_toArray, List.set_cons_zero, List.set_cons_succ]
    refine wpAnyH_take (i := 8) (oi := _) (v := ?vg41u9) rfl (by kernel_rfl) (by kernel_rfl) (by kernel_rfl) (fun _ _ _ h => h) (Or.inl ⟨by rfl, ?hyg41u9⟩) hHeld ?restg41u9
    case hyg41u9 => (intro w hSw; (try dsimp only at hSw); go_simp; first | done | with_reducible rfl)
    try simp only [Act.put, List.getElem_toArray, List.getElem_cons_zero, List.getElem_cons_succ, List.setIfInBounds_toArray, List.set_cons_zero, List.set_cons_succ]
    refine wpAnyH_take (i := 9) (oi := _) (v := ?vg41u10) rfl (by kernel_rfl) (by kernel_rfl) (by kernel_rfl) (fun _ _ _ h => h) (Or.inl ⟨by rfl, ?hyg41u10⟩) hHeld ?restg41u10
    case hyg41u10 => (intro w hSw; (try dsimp only at hSw); go_simp; first | done | with_reducible rfl)
    try simp only [Act.put, List.getElem_toArray, List.getElem_cons_zero, List.getElem_cons_succ, List.setIfInBounds_toArray, List.set_cons_zero, List.set_cons_succ]
    refine wpAnyH_take (i := 10) (oi := _) (v := ?vg41u11) rfl (by kernel_rfl) (by kernel_rfl) (by kernel_rfl) (fun _ _ _ h => h) (Or.inl ⟨by rfl, ?hyg41u11⟩) hHeld ?restg41u11
    case hyg41u11 => (intro w hSw; (try dsimp only at hSw); go_simp; first | done | with_reducible rfl)
    try simp only [Act.put, List.getElem_toArray, List.getElem_cons_zero, List.getElem_cons_succ, List.setIfInBounds_toArray, List.set_cons_zero, List.set_cons_succ]
    refine wpAnyH_take (i := 11) (oi := _) (v := ?vg41u12) rfl (by kernel_rfl) (by kernel_rfl) (by kernel_rfl) (fun _ _ _ h => h) (Or.inl ⟨by rfl, ?hyg41u12⟩) hHeld ?restg41u12
    case hyg41u12 => (intro w hSw; (try dsimp only at hSw); go_simp; first | done | with_reducible rfl)
    try simp only [Act.put, List.getElem_toArray, List.getElem_cons_zero, List.getElem_cons_succ, List.setIfInBounds_toArray, List.set_cons_zero, List.set_cons_succ]
    refine wpAnyH_take (i := 12) (oi := _) (v := ?vg41u13) rfl (by kernel_rfl) (by kernel_rfl) (by kernel_rfl) (fun _ _ _ h => h) (Or.inl ⟨by rfl, ?hyg41u13⟩) hHeld ?restg41u13
    case hyg41u13 => (intro w hSw; (try dsimp only at hSw); go_simp; first | done | with_reducible rfl)
    try simp only [Act.put, List.getElem_toArray, List.getElem_cons_zero, List.getElem_cons_succ, List.setIfInBounds_toArray, List.set_cons_zero, List.set_cons_succ]
    have bacc : Below ((w.alloc (.cells #[.int .i64 o, .int .i64 i, .int .i64 j, .int .i64 n] 70)).alloc (.cells #[.int .i64 0, .int .i64 0, .int .i64 0, .int .i64 0] 70)).heap.size ((w.alloc (.cells #[.int .i64 o, .int .i64 i, .int .i64 j, .int .i64 n] 70)).alloc (.cells #[.int .i64 0, .int .i64 0, .int .i64 0, .int .i64 0] 70)) _ := (Below.refl _ _).drew
    replace VX := VX.kept bacc
    replace VR := VR.kept bacc
    replace B := thenB B bacc
    have Sz41 := bacc.size
    simp only [World.size_alloc] at Sz41
    have HT := Hid.mk VR.there
    have VF := VR.filled [.int .i64 o, .int .i64 v, .int .i64 u, .int .i64 0] rfl
    have KA : (World.setCells (((w.alloc (.cells #[.int .i64 o, .int .i64 i, .int .i64 j, .int .i64 n] 70)).alloc (.cells #[.int .i64 0, .int .i64 0, .int .i64 0, .int .i64 0] 70)).drew) (w.heap.size + 1) 0 [.int .i64 o, .int .i64 v, .int .i64 u, .int .i64 0]).cell? ⟨w.heap.size, 0, none⟩ = some (.int .i64 o) ∧ (World.setCells (((w.alloc (.cells #[.int .i64 o, .int .i64 i, .int .i64 j, .int .i64 n] 70)).alloc (.cells #[.int .i64 0, .int .i64 0, .int .i64 0, .int .i64 0] 70)).drew) (w.heap.size + 1) 0 [.int .i64 o, .int .i64 v, .int .i64 u, .int .i64 0]).cell? ⟨w.heap.size, 1, none⟩ = some (.int .i64 i) ∧ (World.setCells (((w.alloc (.cells #[.int .i64 o, .int .i64 i, .int .i64 j, .int .i64 n] 70)).alloc (.cells #[.int .i64 0, .int .i64 0, .int .i64 0, .int .i64 0] 70)).drew) (w.heap.size + 1) 0 [.int .i64 o, .int .i64 v, .int .i64 u, .int .i64 0]).cell? ⟨w.heap.size, 2, none⟩ = some (.int .i64 j) ∧ (World.setCells (((w.alloc (.cells #[.int .i64 o, .int .i64 i, .int .i64 j, .int .i64 n] 70)).alloc (.cells #[.int .i64 0, .int .i64 0, .int .i64 0, .int .i64 0] 70)).drew) (w.heap.size + 1) 0 [.int .i64 o, .int .i64 v, .int .i64 u, .int .i64 0]).cell? ⟨w.heap.size, 3, none⟩ = some (.int .i64 n) ∧ (World.setCells (((w.alloc (.cells #[.int .i64 o, .int .i64 i, .int .i64 j, .int .i64 n] 70)).alloc (.cells #[.int .i64 0, .int .i64 0, .int .i64 0, .int .i64 0] 70)).drew) (w.heap.size + 1) 0 [.int .i64 o, .int .i64 v, .int .i64 u, .int .i64 0]).cell? ⟨bl, off + i, none⟩ = some (.int .i64 v) ∧ (World.setCells (((w.alloc (.cells #[.int .i64 o, .int .i64 i, .int .i64 j, .int .i64 n] 70)).alloc (.cells #[.int .i64 0, .int .i64 0, .int .i64 0, .int .i64 0] 70)).drew) (w.heap.size + 1) 0 [.int .i64 o, .int .i64 v, .int .i64 u, .int .i64 0]).cell? ⟨bl, off + j, none⟩ = some (.int .i64 u) := ⟨(VX.apart (B := w.heap.size + 1) (by first | omega | (simp; omega)) 0 [.int .i64 o, .int .i64 v, .int .i64 u, .int .i64 0]).2.1 0 (by simp), (VX.apart (B := w.heap.size + 1) (by first | omega | (simp; omega)) 0 [.int .i64 o, .int .i64 v, .int .i64 u, .int .i64 0]).2.1 1 (by simp), (VX.apart (B := w.heap.size + 1) (by first | omega | (simp; omega)) 0 [.int .i64 o, .int .i64 v, .int .i64 u, .int .i64 0]).2.1 2 (by simp), (VX.apart (B := w.heap.size + 1) (by first | omega | (simp; omega)) 0 [.int .i64 o, .int .i64 v, .int .i64 u, .int .i64 0]).2.1 3 (by simp), (cells_far (by omega) 0 [.int .i64 o, .int .i64 v, .int .i64 u, .int .i64 0]).trans (((bcell bacc).1 _ _ (by simp only [World.size_alloc]; omega)).trans p0), (cells_far (by omega) 0 [.int .i64 o, .int .i64 v, .int .i64 u, .int .i64 0]).trans (((bcell bacc).1 _ _ (by simp only [World.size_alloc]; omega)).trans p1)⟩
    have BR := belowCells B (show w.heap.size ≤ w.heap.size + 1 by (first | omega | (simp; done) | (simp; omega))) 0 [.int .i64 o, .int .i64 v, .int .i64 u, .int .i64 0]
    obtain ⟨w6, hw6⟩ : ∃ w6, World.setCells (((w.alloc (.cells #[.int .i64 o, .int .i64 i, .int .i64 j, .int .i64 n] 70)).alloc (.cells #[.int .i64 0, .int .i64 0, .int .i64 0, .int .i64 0] 70)).drew) (w.heap.size + 1) 0 [.int .i64 o, .int .i64 v, .int .i64 u, .int .i64 0] = w6 := ⟨_, rfl⟩
    rw [hw6] at VF BR KA
    replace hw6 := Hid.mk hw6
    replace VF := Hid.mk VF
    replace KA := Hid.mk KA
    replace BR := Hid.mk BR
    refine wpAnyH_ready (rs := [13]) (by kernel_rfl) (by simp) ?_
    refine AllReadyH.cons (o := _) rfl (fun K0 hK0 => ?_) AllReadyH.nil
    rw [if_pos (by rfl)]
    refine wp_stroke w6 70 _ _ rfl (w.heap.size + 1) 0 #[.int .i64 o, .int .i64 v, .int .i64 u, .int .i64 0] rfl rfl HT.out (by kernel_rfl) (by kernel_rfl) hw6.out ?_
    refine hK0.out _ _ KA.out (fun hHeld => ?_)
    clear hK0 K0 hHeld KA HT
    refine wpAnyH_done (by kernel_rfl) ?_ _
    go_wp2
    refine bodyPost_ret (v := .agg #[.int .i64 o, .int .i64 v, .int .i64 u, .int .i64 0]) (results_row Tryd.results48 _ _ (w.heap.size + 1) [.int .i64 o, .int .i64 v, .int .i64 u, .int .i64 0] _ rfl VF.out Tryd.underlying70 rfl (by kernel_rfl)) rfl ⟨⟨o, v, u, 0⟩, rfl, rfl, BR.out⟩

end Go.Proofs.YthjaehcfakjemaaDoor

/- Terms numbered: what comes of it. -/
namespace Go.Proofs.YthjaehcfakjemaaDoor
open Go.RowKit

/-- The numbers of the terms of a table, and the table of what they number. -/
structure Nb where
  pl : Int → Int
  tb : List T4

def nbS (fr t0 : List T4) : Nat → Nb
  | 0 => ⟨fun _ => 0, t0⟩
  | k + 1 => ⟨updP (nbS fr t0 k).pl k (tmIdx (nbS fr t0 k).tb (mvT (fr.getD k zTerm) (nbS fr t0 k).pl) : Nat), if mvT (fr.getD k zTerm) (nbS fr t0 k).pl ∈ (nbS fr t0 k).tb then (nbS fr t0 k).tb else (nbS fr t0 k).tb ++ [mvT (fr.getD k zTerm) (nbS fr t0 k).pl]⟩

structure NbI (fr t0 : List T4) (k : Nat) (s : Nb) : Prop where
  nice : Nice s.tb
  pre : ∃ ys, s.tb = t0 ++ ys ∧ ys.length ≤ k
  leads : ∀ j : Nat, j < k → Leads fr s.tb s.pl j
  small : ∀ i, 0 ≤ s.pl i ∧ s.pl i ≤ t0.length + k

theorem nb_ok {fr t0 : List T4} (hv : tfC fr = 0) (T : Nice t0) : ∀ k, k ≤ fr.length → NbI fr t0 k (nbS fr t0 k)
  | 0, _ => ⟨T, ⟨[], by simp [nbS], by simp⟩, fun j hj => by omega, fun i => ⟨Int.le_refl 0, by simp only [nbS]; omega⟩⟩
  | k + 1, hk => by
    have I := nb_ok hv T k (by omega)
    rw [nbS]
    generalize nbS fr t0 k = s at *
    obtain ⟨pl, tb⟩ := s
    obtain ⟨hN, ⟨ys, hy1, hy2⟩, hL, hS⟩ := I
    simp only at *
    have hkid : ∀ z ∈ plc (fr.getD k zTerm), Leads fr tb pl z := by
      intro z hz
      have hz2 := plc_ahead k (by omega) (tfC_ahead hv) rfl z hz
      obtain ⟨j, rfl⟩ : ∃ j : Nat, z = (j : Int) := ⟨z.toNat, by omega⟩
      exact hL j (by omega)
    obtain ⟨hF, hD, _⟩ := mv_step hv hN (by omega) hkid
    generalize mvT (fr.getD k zTerm) pl = u at *
    have hlen : tb.length ≤ t0.length + k := by rw [hy1, List.length_append]; omega
    have small : ∀ v : Nat, v ≤ tb.length → ∀ i, 0 ≤ updP pl k (v : Int) i ∧ updP pl k (v : Int) i ≤ (t0.length : Int) + ((k + 1 : Nat) : Int) := by
      intro v hv i
      unfold updP
      split
      · omega
      · have := hS i; omega
    by_cases hm : u ∈ tb
    · rw [if_pos hm]
      have h1 := tmIdx_lt hm
      have h2 := tmIdx_at hm
      refine ⟨hN, ⟨ys, hy1, by omega⟩, ?_, small _ (by omega)⟩
      intro j hj
      by_cases hjk : j = k
      · subst hjk
        refine ⟨by omega, by omega, ?_, ?_, ?_⟩
        · simp only [updP, if_pos]; omega
        · simp only [updP, if_pos]; omega
        · simp only [updP, if_pos, Int.toNat_natCast]
          rw [den_at _ h1 hN.ahead, h2, ← hD]; rfl
      · have := (hL j (by omega)).upd (ys := []) (p := (k : Int)) (v := (tmIdx tb u : Nat)) (by omega)
        rw [List.append_nil] at this
        exact this
    · rw [if_neg hm, tmIdx_out hm]
      refine ⟨hN.snoc hF hm, ⟨ys ++ [u], by rw [hy1, List.append_assoc], by simp; omega⟩, ?_, small _ (Nat.le_refl _)⟩
      intro j hj
      by_cases hjk : j = k
      · subst hjk
        refine ⟨by omega, by omega, ?_, ?_, ?_⟩
        · simp only [updP, if_pos]; omega
        · simp only [updP, if_pos]; simp; omega
        · simp only [updP, if_pos, Int.toNat_natCast]
          rw [den_snoc hN hF, hD]
      · exact (hL j (by omega)).upd (ys := [u]) (p := (k : Int)) (by omega)

/-- Two terms have one number where they are made in the same way. -/
theorem nb_same {fa fb : List T4} {x y : Nat} (ha : tfC fa = 0) (hx : x < fa.length) (hb : tfC fb = 0) (hy : y < fb.length) :
    (nbS fa [] fa.length).pl x = (nbS fb (nbS fa [] fa.length).tb fb.length).pl y ↔ den fa x = den fb y := by
  have I1 := nb_ok ha Nice.nil fa.length (Nat.le_refl _)
  have I2 := nb_ok hb I1.nice fb.length (Nat.le_refl _)
  generalize nbS fa [] fa.length = s at *
  generalize nbS fb s.tb fb.length = r at *
  obtain ⟨_, _, a3, a4, a5⟩ := I1.leads x hx
  obtain ⟨_, _, b3, b4, b5⟩ := I2.leads y hy
  obtain ⟨ys, hys, _⟩ := I2.pre
  rw [Int.toNat_natCast] at a5 b5
  have a6 : den r.tb (s.pl x).toNat = den fa x := by rw [hys, den_app _ _ _ (by omega)]; exact a5
  have a7 : (s.pl x).toNat < r.tb.length := by rw [hys, List.length_append]; omega
  constructor
  · intro e
    rw [← a6, e, b5]
  · intro e
    have := I2.nice.inj a7 (by omega) (a6.trans (e.trans b5.symm))
    omega

end Go.Proofs.YthjaehcfakjemaaDoor
