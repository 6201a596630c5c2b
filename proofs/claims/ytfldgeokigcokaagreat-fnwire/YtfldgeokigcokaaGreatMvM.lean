/- A term moved: what stays the same. -/
import Derived.Test.YtfldgeokigcokaaGreatMvG
import Derived.Test.YtfldgeokigcokaaGreatTpC
namespace Go.Proofs.YtfldgeokigcokaaGreat
open Go.RowKit

theorem plc_a {t : T4} (h : 0 < kids t.o) (h0 : 0 ≤ t.a) : ((t.a.toNat : Nat) : Int) ∈ plc t := by
  have e : ((t.a.toNat : Nat) : Int) = t.a := by omega
  rw [e]; unfold plc
  rcases kids_cases t.o with q | q | q
  · omega
  · rw [q, if_neg (by decide), if_pos rfl]; simp
  · rw [q, if_pos rfl]; simp

theorem plc_b {t : T4} (h : 1 < kids t.o) (h0 : 0 ≤ t.b) : ((t.b.toNat : Nat) : Int) ∈ plc t := by
  have e : ((t.b.toNat : Nat) : Int) = t.b := by omega
  rw [e]; unfold plc
  rcases kids_cases t.o with q | q | q
  · omega
  · omega
  · rw [q, if_pos rfl]; simp

theorem den_rch {xs ys : List T4} (X : Ahead xs) (Y : Ahead ys) {p r : Nat} (hp : p < xs.length) (hr : r < ys.length) (h : den xs p = den ys r) {i : Nat} (hi : Rch ys r i) : ∃ q, q < xs.length ∧ Rch xs p q ∧ den xs q = den ys i := by
  have N := names_of Y
  induction hi with
  | top => exact ⟨p, hp, .top, h⟩
  | @step i j h1 h2 ih =>
    obtain ⟨q, hq, hR, he⟩ := ih
    have hin : i < ys.length := by have := h1.lt N hr; omega
    have ho : (xs.getD q zTerm).o = (ys.getD i zTerm).o := by rw [← den_op q hq X, ← den_op i hin Y, he]
    rw [den_at q hq X, den_at i hin Y] at he
    obtain ⟨qa, qb⟩ := X q hq
    unfold plc at h2
    rcases kids_cases (ys.getD i zTerm).o with hk | hk | hk
    · rw [hk] at h2; simp at h2
    · rw [hk, if_neg (by decide), if_pos rfl, List.mem_singleton] at h2
      rw [mkTr_one (ho ▸ hk), mkTr_one hk] at he
      simp only [Tr.one.injEq] at he
      have ha := qa (by rw [ho, hk]; decide)
      refine ⟨(xs.getD q zTerm).a.toNat, by omega, .step hR (plc_a (by rw [ho, hk]; decide) ha.1), ?_⟩
      rw [he.2, ← h2]; simp
    · rw [hk, if_pos rfl] at h2
      simp only [List.mem_cons, List.not_mem_nil, or_false] at h2
      have ha := qa (by rw [ho, hk]; decide)
      have hb := qb (by rw [ho, hk]; decide)
      have wa : den xs (xs.getD q zTerm).a.toNat = den ys j ∨ den xs (xs.getD q zTerm).b.toNat = den ys j := by
        have ej : den ys j = den ys (ys.getD i zTerm).a.toNat ∨ den ys j = den ys (ys.getD i zTerm).b.toNat := by
          rcases h2 with h2 | h2
          · left; rw [← h2]; simp
          · right; rw [← h2]; simp
        rcases mkTr_two (t := xs.getD q zTerm) (x := den xs (xs.getD q zTerm).a.toNat) (y := den xs (xs.getD q zTerm).b.toNat) (ho ▸ hk) with e1 | e1 <;> rcases mkTr_two (t := ys.getD i zTerm) (x := den ys (ys.getD i zTerm).a.toNat) (y := den ys (ys.getD i zTerm).b.toNat) hk with e2 | e2 <;> rw [e1, e2] at he <;> simp only [Tr.two.injEq] at he <;> obtain ⟨_, f1, f2⟩ := he <;> rcases ej with ej | ej <;> rw [ej] <;> first | exact .inl f1 | exact .inr f2 | exact .inl f2 | exact .inr f1
      rcases wa with wa | wa
      · exact ⟨_, by omega, .step hR (plc_a (by rw [ho, hk]; decide) ha.1), wa⟩
      · exact ⟨_, by omega, .step hR (plc_b (by rw [ho, hk]; decide) hb.1), wa⟩

theorem nodup_sub : ∀ (xs ys : List Tr), xs.Nodup → (∀ x ∈ xs, x ∈ ys) → xs.length ≤ ys.length
  | [], _, _, _ => Nat.zero_le _
  | x :: xs, ys, hd, h => by
    obtain ⟨h1, h2⟩ := List.nodup_cons.1 hd
    have hx := h x (by simp)
    have h3 := List.length_erase_of_mem hx
    have h4 := nodup_sub xs (ys.erase x) h2 (fun y hy => (List.mem_erase_of_ne (fun e => by subst e; exact h1 hy)).2 (h y (by simp [hy])))
    have : 0 < ys.length := List.length_pos_of_mem hx
    simp only [List.length_cons]; omega

/-- The parts of a term, as what they are made of. -/
def prD (xs : List T4) (r : Nat) : List Tr := (prL xs r).map fun z => den xs z.toNat

theorem prD_len (xs : List T4) (r : Nat) : (prD xs r).length = (prL xs r).length := by simp [prD]

theorem prD_nodup {xs : List T4} (hv : tfC xs = 0) {r : Nat} (hr : r < xs.length) : (prD xs r).Nodup := by
  have N := names_of (tfC_ahead hv)
  unfold prD
  rw [List.nodup_iff_pairwise_ne, List.pairwise_map]
  refine (prL_rising xs r).imp_of_mem ?_
  intro a b ha hb hlt e
  obtain ⟨i, rfl, hi⟩ := (prL_mem N hr).1 ha
  obtain ⟨j, rfl, hj⟩ := (prL_mem N hr).1 hb
  have := hi.lt N hr
  have := hj.lt N hr
  rw [Int.toNat_natCast, Int.toNat_natCast] at e
  have := (tfC_nice hv).inj (by omega) (by omega) e
  omega

theorem prD_sub {xs ys : List T4} (hv : tfC xs = 0) (hw : tfC ys = 0) {p r : Nat} (hp : p < xs.length) (hr : r < ys.length) (h : den xs p = den ys r) : ∀ t ∈ prD ys r, t ∈ prD xs p := by
  intro t ht
  unfold prD at ht ⊢
  rw [List.mem_map] at ht ⊢
  obtain ⟨z, hz, rfl⟩ := ht
  obtain ⟨i, rfl, hi⟩ := (prL_mem (names_of (tfC_ahead hw)) hr).1 hz
  obtain ⟨q, hq, hR, he⟩ := den_rch (tfC_ahead hv) (tfC_ahead hw) hp hr h hi
  exact ⟨(q : Int), (prL_mem (names_of (tfC_ahead hv)) hp).2 ⟨q, rfl, hR⟩, by rw [Int.toNat_natCast, Int.toNat_natCast]; exact he⟩

/-- Terms that are made in the same way have as many parts. -/
theorem prL_same {xs ys : List T4} (hv : tfC xs = 0) (hw : tfC ys = 0) {p r : Nat} (hp : p < xs.length) (hr : r < ys.length) (h : den xs p = den ys r) : (prL xs p).length = (prL ys r).length := by
  have h1 := nodup_sub _ _ (prD_nodup hw hr) (prD_sub hv hw hp hr h)
  have h2 := nodup_sub _ _ (prD_nodup hv hp) (prD_sub hw hv hr hp h.symm)
  rw [prD_len, prD_len] at h1 h2
  omega

theorem mvR_right (fr : List T4) : ∀ (zs : List Int) (pl : Int → Int) (tb : List T4), tfC tb = 0 → tfC (mvR fr zs pl tb).tb = 0
  | [], pl, tb, h => h
  | p :: ps, pl, tb, h => by
    rw [mvR]
    split
    · rename_i hc
      exact mvR_right fr ps _ _ (put_right h hc).1
    · exact h

/-- The numbers of a right table. -/
theorem tfC_ok {xs : List T4} (h : tfC xs = 0) : ∀ x ∈ xs, okT x := by
  intro x hx
  obtain ⟨k, hk, e⟩ := List.getElem_of_mem hx
  have e2 : xs.getD k zTerm = x := by simp [List.getD, hk, e]
  have h4 := (tfC_zero h).1
  obtain ⟨h1, h2, h3, ha, hb, h5, _⟩ := tm_zero ((tfC_zero h).2 k hk).1
  obtain ⟨k1, k2⟩ := tfC_ahead h k hk
  rw [e2] at *
  refine ⟨okI_of (by omega) (by omega), ?_, ?_, okI_of (by omega) (by omega)⟩
  · rcases kids_cases x.o with q | q | q
    · have := ha (by omega); exact okI_of (by omega) (by omega)
    · have := k1 (by omega); exact okI_of (by omega) (by omega)
    · have := k1 (by omega); exact okI_of (by omega) (by omega)
  · rcases kids_cases x.o with q | q | q
    · have := hb (by omega); exact okI_of (by omega) (by omega)
    · have := hb (by omega); exact okI_of (by omega) (by omega)
    · have := k2 (by omega); exact okI_of (by omega) (by omega)

/-- A term that was moved: where it stands is right and made in the same way; moved back it is where it was. -/
theorem moves_ways (fr : List T4) (q : Int) (tb : List T4) : (∃ (kc kk : Int) (l : List T4), mvF fr q tb = ⟨kc, kk, l⟩ ∧ kc ≠ 0) ∨
    (∃ (m k kl : Nat) (l : List T4), q = (m : Int) ∧ m < fr.length ∧ mvF fr q tb = ⟨0, (k : Int), l⟩ ∧ l.length = kl ∧ k < kl ∧ kl ≤ 400 ∧ tfC fr = 0 ∧ tfC l = 0 ∧ den fr m = den l k ∧ mvF l (k : Int) fr = ⟨0, q, fr⟩) := by
  by_cases hc : (mvF fr q tb).c = 0
  · right
    rcases mvF_ways fr q tb with ⟨h1, h2⟩ | ⟨_, h1, h2⟩ | ⟨_, _, _, h2⟩ | ⟨h1, h2, h3, h4⟩
    · rw [h2] at hc; exact absurd hc h1
    · rw [h2] at hc; exact absurd hc h1
    · rw [h2] at hc; simp at hc
    · have hb := btw_iff.1 h3
      obtain ⟨m, rfl⟩ := Int.eq_ofNat_of_zero_le hb.1
      have hm : m < fr.length := by omega
      rw [h4] at hc ⊢
      have hl4 := mvP_len (fr := fr) (q := (m : Int)) (tfC_zero h2).1
      unfold mvP at hc hl4 ⊢
      rw [Int.toNat_natCast] at hc hl4 ⊢
      obtain ⟨M, hM⟩ : ∃ M, mvR fr (prL fr m) (fun _ => 0) tb = M := ⟨_, rfl⟩
      have hr := mvR_right fr (prL fr m) (fun _ => 0) tb h2
      rw [hM] at hc hr hl4 ⊢
      by_cases hMc : M.c = 0
      · rw [if_pos hMc] at hl4 ⊢
        have N := names_of (tfC_ahead h1)
        have hmm : (m : Int) ∈ prL fr m := (prL_mem N hm).2 ⟨m, rfl, .top⟩
        rcases mvd_run h1 hm _ 0 (fun _ => 0) tb rfl (Nat.zero_le _) (Mvd.start (tfC_nice h2)) M (by rw [List.drop_zero]; exact hM) with ⟨_, R⟩ | ⟨e, _, _⟩
        · obtain ⟨_, _, k3, k4, k5⟩ := R.leads (m : Int) (by rw [List.take_length]; exact hmm)
          rw [Int.toNat_natCast] at k5
          obtain ⟨k, hk⟩ := Int.eq_ofNat_of_zero_le k3
          rw [hk] at k4 k5
          rw [Int.toNat_natCast] at k5
          have hkl : k < M.tb.length := by omega
          rw [hk]
          refine ⟨m, k, M.tb.length, M.tb, rfl, hm, rfl, rfl, hkl, hl4, h1, hr, k5.symm, ?_⟩
          -- moved back
          have N2 := names_of (tfC_ahead hr)
          have hkk : (k : Int) ∈ prL M.tb k := (prL_mem N2 hkl).2 ⟨k, rfl, .top⟩
          have hall : ∀ z ∈ prL M.tb k, ∃ p, p < fr.length ∧ den fr p = den M.tb z.toNat := by
            intro z hz
            obtain ⟨i, rfl, hi⟩ := (prL_mem N2 hkl).1 hz
            rw [Int.toNat_natCast]
            exact den_sub (tfC_ahead h1) (tfC_ahead hr) hm hkl k5.symm hi
          rcases mvF_ways M.tb (k : Int) fr with ⟨g1, _⟩ | ⟨_, g1, _⟩ | ⟨_, _, g1, _⟩ | ⟨_, _, _, g4⟩
          · exact absurd hr g1
          · exact absurd h1 g1
          · have : btw (k : Int) 0 ((M.tb.length : Int) - 1) = true := btw_iff.2 (by omega)
            rw [this] at g1; cases g1
          · rw [g4]
            unfold mvP
            rw [Int.toNat_natCast]
            obtain ⟨M2, hM2⟩ : ∃ M2, mvR M.tb (prL M.tb k) (fun _ => 0) fr = M2 := ⟨_, rfl⟩
            rw [hM2]
            rcases mvd_run hr hkl _ 0 (fun _ => 0) fr rfl (Nat.zero_le _) (Mvd.start (tfC_nice h1)) M2 (by rw [List.drop_zero]; exact hM2) with ⟨e1, R2⟩ | ⟨_, _, h⟩
            · have es := R2.same hall
              obtain ⟨_, _, j3, j4, j5⟩ := R2.leads (k : Int) (by rw [List.take_length]; exact hkk)
              rw [es] at j4 j5
              rw [Int.toNat_natCast] at j5
              have := (tfC_nice h1).inj (k := (M2.pl (k : Int)).toNat) (k' := m) (by omega) hm (j5.trans k5)
              rw [if_pos e1, es]
              congr 1
              omega
            · exact absurd hall h
        · omega
      · rw [if_neg hMc] at hc; exact absurd hc hMc
  · left
    obtain ⟨P, hP⟩ : ∃ P, mvF fr q tb = P := ⟨_, rfl⟩
    rw [hP] at hc ⊢
    obtain ⟨c, k, l⟩ := P
    exact ⟨c, k, l, rfl, hc⟩

end Go.Proofs.YtfldgeokigcokaaGreat
