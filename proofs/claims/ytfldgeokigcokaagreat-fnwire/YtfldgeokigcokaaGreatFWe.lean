/- Put together: MvI, MvJ. -/
import Derived.Test.YtfldgeokigcokaaGreatFWi
import Derived.Test.YtfldgeokigcokaaGreatFWd
import Derived.Test.YtfldgeokigcokaaGreatFWt

/- numberTerms. -/
namespace Go.Proofs.YtfldgeokigcokaaGreat
open Go.RowKit

theorem mvT_okI {t : T4} (ht : okT t) {pl : Int → Int} (h : ∀ i, okI (pl i)) : okT (mvT t pl) := by
  have z : okI 0 := okI_of (by decide) (by decide)
  unfold mvT
  split
  · exact ht
  · split
    · exact ⟨(okI_of (by decide) (by decide) : okI 6), h _, z, z⟩
    · split
      · exact ⟨(okI_of (by decide) (by decide) : okI 7), okI_min (h _) (h _), okI_max (h _) (h _), z⟩
      · exact ⟨ht.1, h _, h _, z⟩

/-- What a call of 'numberTerms' leaves. -/
def Numbered (fr t0 : List T4) (n g : Nat) (w : World) (e : Ending) (w' : World) : Prop :=
  ∃ c d, e = .returned (.slice c n d) ∧ Own .i64 2 w' w.heap.size c d (tab n (nbS fr t0 n).pl) ∧ TM w' g (tmM (nbS fr t0 n).tb) (nbS fr t0 n).tb.length ∧ Sm (fun q => q = g) w w'

set_option maxRecDepth 20000 in
set_option maxHeartbeats 8000000 in
theorem numberTerms_ok (a : Option Addr) (n ca : Nat) (fr t0 : List T4) (g ct : Nat) (w : World) (ha : RdTerm w a fr) (hn : fr.length = n) (hv : tfC fr = 0) (hok : ∀ t ∈ fr, okT t) (T0 : Nice t0) (hl : t0.length ≤ 400) (hg : TM w g (tmM t0) ct) (hct : ct = t0.length) (hag : Hid (∀ ad : Addr, a = some ad → ad.block ≠ g)) (hlow : Hid (∀ ad : Addr, a = some ad → ad.block < w.heap.size)) :
    Calls Tryz.prog 33 #[.slice a n ca, .map (some g)] w (Numbered fr t0 n g w) := by
  subst hct
  have hn4 : n ≤ 400 := by have := (tfC_zero hv).1; omega
  have HAh := Hid.mk (tfC_ahead hv)
  have HV := Hid.mk hv
  have HOK := Hid.mk hok
  have HN := Hid.mk hn
  have HNB := Hid.mk (fun k (hk : k ≤ n) => nb_ok hv T0 k (by omega))
  obtain ⟨i0, hi, hz0, hz1, hz2⟩ := info_parts Tryz.infoI64
  have hgl := hg.lt
  have S := Sm.refl (fun q => q = g) w
  clear hv hok T0
  go_enter Tryz.func33, Tryz.ntmps33
  go_wp2_with (at_make; go_loud (refine wpList_make_full _ rfl _ _ 52 rfl w.heap.size 2 i0 (.int .i64 0) 1 Tryz.underlying52 hi hz0 hz1 .i64 .i64 _ _ n rfl rfl (by omega) (by omega) (by rw [hz2]; omega) (by unfold maxLen; omega) (Nat.le_refl _) ?_))
  intro w2 hown hgrow
  have O0 : Own .i64 2 w2 w.heap.size (some ⟨w.heap.size, 0, none⟩) n (tab n (nbS fr t0 0).pl) := by
    refine Own.mk ?_ (tab_len _ _)
    rw [show (nbS fr t0 0).pl = (fun _ => 0) from rfl, tab_zero]
    simpa [toList_madeCells_one] using hown
  have bg : Below w.heap.size w w2 := (Sm.grown (X := fun _ => False) hgrow (fun k e => by cases e)).below' (Below.refl _ _) (Nat.le_refl _) (fun k e => e.elim)
  have hS2 : w.heap.size < w2.heap.size := by have := O0.lt _ rfl; simp only at this; omega
  have S0 := Hid.mk (S.trans (Sm.below bg))
  have A0 := Hid.mk (ha.kept bg)
  have M0 := Hid.mk (hg.kept bg)
  replace O0 := Hid.mk O0
  have hQ0 := Hid.mk hS2
  obtain ⟨Q, hQ⟩ : ∃ Q, w.heap.size = Q := ⟨_, rfl⟩
  have hAQ : Hid (∀ ad : Addr, a = some ad → ad.block ≠ Q) := Hid.mk (fun ad had => by have := hlow.out ad had; omega)
  have hQw := Hid.mk hQ
  have hgQ : g < Q := by omega
  rw [hQ] at O0 hQ0 ⊢
  clear hown hgrow bg hS2 S ha hg hQ hgl hi hz0 hz1 hz2
  go_wp2
  go_loopw [16] (fun i wr => ∃ k : Nat, k ≤ n ∧ i = .int .i64 k ∧ Own .i64 2 wr Q (some ⟨Q, 0, none⟩) n (tab n (nbS fr t0 k).pl) ∧ TM wr g (tmM (nbS fr t0 k).tb) (nbS fr t0 k).tb.length ∧ RdTerm wr a fr ∧ Sm (fun q => q = g) w wr ∧ Hid (Q < wr.heap.size)) (fun i _ => n - (intOf i).toNat)
  case atStart => exact ⟨0, Nat.zero_le _, rfl, O0.out, M0.out, A0.out, S0.out, hQ0⟩
  case round =>
    clear O0 M0 A0 S0 hQ0
    obtain ⟨k, hk, rfl, O, hT, ha, S, hQr⟩ := hrel
    by_cases hlt : k < n
    · have hk1 : (k : Int) < (n : Int) := by omega
      obtain ⟨x, hx1⟩ : ∃ x, fr.getD k zTerm = x := ⟨_, rfl⟩
      have I := HNB.out k hk
      have hnx : nbS fr t0 (k + 1) = ⟨updP (nbS fr t0 k).pl k (tmIdx (nbS fr t0 k).tb (mvT x (nbS fr t0 k).pl) : Nat), if mvT x (nbS fr t0 k).pl ∈ (nbS fr t0 k).tb then (nbS fr t0 k).tb else (nbS fr t0 k).tb ++ [mvT x (nbS fr t0 k).pl]⟩ := by rw [nbS, hx1]
      obtain ⟨s, hs⟩ : ∃ s, nbS fr t0 k = s := ⟨_, rfl⟩
      rw [hs] at O hT I hnx
      obtain ⟨pl, tb⟩ := s
      obtain ⟨ys, hy1, hy2⟩ := I.pre
      have hsm := I.small
      simp only at O hT hnx hy1 hsm
      have hpi : ∀ i, okI (pl i) := fun i => okI_of (by have := (hsm i).1; omega) (by have := (hsm i).2; omega)
      have htl : tb.length ≤ 800 := by rw [hy1, List.length_append]; omega
      have hxo : okT x := HOK.out x (by rw [← hx1]; exact getDTerm_mem (by rw [HN.out]; exact hlt))
      have hro : okT (mvT x pl) := mvT_okI hxo hpi
      have hop := op_right HV.out k (by rw [HN.out]; exact hlt) hx1
      obtain ⟨ha1, hb1⟩ := HAh.out k (by rw [HN.out]; exact hlt)
      rw [hx1] at ha1 hb1
      have CW := Hid.mk (fun w h => withPlaces_ok x hop pl n (some ⟨Q, 0, none⟩) n w h (fun e => by have := ha1 e; omega) (fun e => by have := hb1 e; omega))
      obtain ⟨r0, hr⟩ : ∃ r, mvT x pl = r := ⟨_, rfl⟩
      rw [hr] at hnx hro
      have HR := Hid.mk hr
      have HA := Hid.mk ha
      have HO := Hid.mk O
      have HT := Hid.mk hT
      have HS := Hid.mk S
      rcases ha with h9 | ⟨b1, o1, rfl, hca⟩
      · have := HN.out; rw [h9] at this; simp at this; omega
      obtain ⟨p0, p1, p2, p3⟩ := RdTerm.cells hca k (by rw [HN.out]; exact hlt) x hx1
      have hQw2 := hQr.out
      have hbg := hag.out _ rfl
      simp only at hbg
      have hb1Q : b1 ≠ Q := hAQ.out _ rfl
      clear hca hx1 hop ha1 hb1 hr hpi hsm hy1 hxo I hT S hs
      have B := Below.refl wr.heap.size wr
      replace B := thenB B (belowA wr (.cells #[.int .i64 x.o, .int .i64 x.a, .int .i64 x.b, .int .i64 x.n] 70))
      have VX := V.new wr [.int .i64 x.o, .int .i64 x.a, .int .i64 x.b, .int .i64 x.n] 70
      obtain ⟨s_VX, f_VX, z_VX⟩ := VX.open
      have Bo := B
      go_wp2_with fail
      refine (CW.out _ (HO.out.rd.kept B)).mono ?_
      rintro e w1 ⟨r, hr', rfl, b1⟩
      clear s_VX f_VX z_VX
      have S1 := b1.size
      simp only [World.size_alloc] at S1
      replace VX := VX.kept b1
      replace B := thenB B b1
      clear b1
      obtain ⟨s_VX, f_VX, z_VX⟩ := VX.open
      have Bo := B
      rw [HR.out] at hr'
      subst hr'
      replace VX := VX.kept (belowA w1 (.cells #[.int .i64 r.o, .int .i64 r.a, .int .i64 r.b, .int .i64 r.n] 70))
      replace B := thenB B (belowA w1 (.cells #[.int .i64 r.o, .int .i64 r.a, .int .i64 r.b, .int .i64 r.n] 70))
      have VM := V.new w1 [.int .i64 r.o, .int .i64 r.a, .int .i64 r.b, .int .i64 r.n] 70
      clear s_VX f_VX z_VX
      obtain ⟨s_VX, f_VX, z_VX⟩ := VX.open
      obtain ⟨s_VM, f_VM, z_VM⟩ := VM.open
      have Bo := B
      have hTc := HT.out.kept B
      have QL := hTc.look hro 0
      by_cases hm : r ∈ tb
      · rw [if_pos hm] at hnx
        have hM : tmM tb r = some ((tmIdx tb r : Nat) : Int) := by unfold tmM; rw [if_pos hm]
        rw [hM] at QL
        simp only [Option.isSome_some, Option.getD_some] at QL
        obtain ⟨v, hvv⟩ : ∃ v, tmIdx tb r = v := ⟨_, rfl⟩
        rw [hvv] at QL hnx
        have hvl : v < tb.length := by rw [← hvv]; exact tmIdx_lt hm
        replace QL : (Instr.lookup 60 (.map (some g)) (.agg #[.int .i64 r.o, .int .i64 r.a, .int .i64 r.b, .int .i64 r.n]) true).run Tryz.prog (w1.alloc (.cells #[.int .i64 r.o, .int .i64 r.a, .int .i64 r.b, .int .i64 r.n] 70)) = .ok (.tuple #[.int .i64 v, .bool true]) (w1.alloc (.cells #[.int .i64 r.o, .int .i64 r.a, .int .i64 r.b, .int .i64 r.n] 70)) := QL
        have HNX := Hid.mk hnx
        clear hnx hm hM hvv
        have hsz9 := B.size
        have hT9 := hTc
        have hO9 := HO.out.kept B
        have hA9 := HA.out.kept B
        have hS9 := HS.out.trans (Sm.below B)
        have SQ : Sm (fun q => q = Q) (w1.alloc (.cells #[.int .i64 r.o, .int .i64 r.a, .int .i64 r.b, .int .i64 r.n] 70)) ((w1.alloc (.cells #[.int .i64 r.o, .int .i64 r.a, .int .i64 r.b, .int .i64 r.n] 70)).setCell ⟨Q, k, none⟩ (.int .i64 v)) := Sm.cell (X := fun q => q = Q) rfl _
        have hOc := Hid.mk hO9
        have hQc := tab_cell hO9 hlt
        have hQf := tab_frozen hO9 k
        have O8 := Hid.mk (tab_store hO9 k v)
        have T8 := Hid.mk (hT9.sm SQ (by omega))
        have A8 := Hid.mk (hA9.sm SQ (fun b hb e => by simp only [Option.some.injEq] at hb; subst hb; simp only at e; omega))
        have S8 := Hid.mk (hS9.newCell (p := ⟨Q, k, none⟩) (by have := hQw.out; simp only; omega) (.int .i64 v))
        have Q8 : Hid (Q < ((w1.alloc (.cells #[.int .i64 r.o, .int .i64 r.a, .int .i64 r.b, .int .i64 r.n] 70)).setCell ⟨Q, k, none⟩ (.int .i64 v)).heap.size) := Hid.mk (by have h1 := SQ.size; omega)
        clear SQ hOc hO9 hT9 hA9 hS9 B
        clear hTc
        go_wp2
        go_roundw
        case rel => exact ⟨k + 1, by omega, by go_num, by rw [HNX.out]; exact O8.out, by rw [HNX.out]; exact T8.out, A8.out, S8.out, Q8⟩
        case measure => (simp [intOf]; omega)
      · rw [if_neg hm, tmIdx_out hm] at hnx
        have hM : tmM tb r = none := by unfold tmM; rw [if_neg hm]
        rw [hM] at QL
        simp only [Option.isSome_none, Option.getD_none] at QL
        replace QL : (Instr.lookup 60 (.map (some g)) (.agg #[.int .i64 r.o, .int .i64 r.a, .int .i64 r.b, .int .i64 r.n]) true).run Tryz.prog (w1.alloc (.cells #[.int .i64 r.o, .int .i64 r.a, .int .i64 r.b, .int .i64 r.n] 70)) = .ok (.tuple #[.int .i64 0, .bool false]) (w1.alloc (.cells #[.int .i64 r.o, .int .i64 r.a, .int .i64 r.b, .int .i64 r.n] 70)) := QL
        have QN : ∀ ty : TypeId, (Builtin.len_ #[60] ty #[.map (some g)]).run Tryz.prog (w1.alloc (.cells #[.int .i64 r.o, .int .i64 r.a, .int .i64 r.b, .int .i64 r.n] 70)) = .ok (.int .i64 tb.length) (w1.alloc (.cells #[.int .i64 r.o, .int .i64 r.a, .int .i64 r.b, .int .i64 r.n] 70)) := fun ty => hTc.len ty 0
        have hsn := tmM_snoc hm
        have HNX := Hid.mk hnx
        have HM := Hid.mk hM
        have hsz9 := B.size
        have hO9 := Hid.mk (HO.out.kept B)
        have hA9 := Hid.mk (HA.out.kept B)
        have hS9 := Hid.mk (HS.out.trans (Sm.below B))
        clear hnx hm hM
        obtain ⟨v, hvv⟩ : ∃ v, tb.length = v := ⟨_, rfl⟩
        rw [hvv] at QN HNX hsn hTc htl
        go_wp2_with (refine wpList_TMstore _ rfl _ _ _ rfl g (tmM tb) v hTc r hro v (okI_of (by omega) (by omega)) HM.out (by omega) rfl rfl rfl ?_)
        intro w7 hT7 hturn
        try rw [hsn] at hT7
        have S7 := Sm.turn (X := fun q => q = g) hturn rfl
        have hO9 := hO9.out.sm S7 (fun b hb e => by simp only [Option.some.injEq] at hb; subst hb; simp only at e; omega)
        have hA9 := hA9.out.sm S7 (fun b hb e => by simp only [Option.some.injEq] at hb; subst hb; exact hbg e)
        have hS9 := hS9.out.trans S7
        have hsz7 := S7.size
        have hT9 := hT7
        clear S7 hturn hT7 hTc
        clear QL QN
        have SQ : Sm (fun q => q = Q) w7 (w7.setCell ⟨Q, k, none⟩ (.int .i64 v)) := Sm.cell (X := fun q => q = Q) rfl _
        have hOc := Hid.mk hO9
        have hQc := tab_cell hO9 hlt
        have hQf := tab_frozen hO9 k
        have O8 := Hid.mk (tab_store hO9 k v)
        have T8 := Hid.mk (hT9.sm SQ (by omega))
        have A8 := Hid.mk (hA9.sm SQ (fun b hb e => by simp only [Option.some.injEq] at hb; subst hb; simp only at e; omega))
        have S8 := Hid.mk (hS9.newCell (p := ⟨Q, k, none⟩) (by have := hQw.out; simp only; omega) (.int .i64 v))
        have Q8 : Hid (Q < (w7.setCell ⟨Q, k, none⟩ (.int .i64 v)).heap.size) := Hid.mk (by have h1 := SQ.size; omega)
        clear SQ hOc hO9 hT9 hA9 hS9 B
        go_wp2
        go_roundw
        case rel => exact ⟨k + 1, by omega, by go_num, by rw [HNX.out]; exact O8.out, by rw [HNX.out, List.length_append, hvv]; exact T8.out, A8.out, S8.out, Q8⟩
        case measure => (simp [intOf]; omega)
    · obtain rfl : k = n := by omega
      have HO := Hid.mk O
      have HT := Hid.mk hT
      have HS := Hid.mk S
      clear O hT S ha
      go_wp2
      go_ret
      exact ⟨_, _, rfl, (hQw.out.symm ▸ HO.out), HT.out, HS.out⟩

end Go.Proofs.YtfldgeokigcokaaGreat

/- SameTerms: the program. -/
namespace Go.Proofs.YtfldgeokigcokaaGreat
open Go.RowKit

/-- Whether two terms are made in the same way. -/
@[irreducible] def smT (fa : List T4) (x : Int) (fb : List T4) (y : Int) : Bool := if akC fa x = 0 then (if akC fb y = 0 then decide (den fa x.toNat = den fb y.toNat) else false) else false

theorem smT_ways (fa : List T4) (x : Int) (fb : List T4) (y : Int) : (akC fa x ≠ 0 ∧ smT fa x fb y = false) ∨ (akC fa x = 0 ∧ akC fb y ≠ 0 ∧ smT fa x fb y = false) ∨ (akC fa x = 0 ∧ akC fb y = 0 ∧ smT fa x fb y = decide (den fa x.toNat = den fb y.toNat)) := by
  unfold smT
  by_cases h1 : akC fa x = 0
  · by_cases h2 : akC fb y = 0
    · exact .inr (.inr ⟨h1, h2, by rw [if_pos h1, if_pos h2]⟩)
    · exact .inr (.inl ⟨h1, h2, by rw [if_pos h1, if_neg h2]⟩)
  · exact .inl ⟨h1, by rw [if_neg h1]⟩

theorem makeMap_none (w : World) : (Instr.makeMap 60 none).run Tryz.prog w = .ok (.map (some w.heap.size)) (w.alloc (.map #[] 0)) := rfl

theorem RdTerm.low {w : World} {a : Option Addr} {xs : List T4} (h : RdTerm w a xs) (h0 : 0 < xs.length) : ∀ ad : Addr, a = some ad → ad.block < w.heap.size := by
  intro ad had
  rcases h with h | ⟨b, o, rfl, hca⟩
  · rw [h] at h0; simp at h0
  · simp only [Option.some.injEq] at had
    subst had
    exact World.block_lt_of_cell? _ _ (RdTerm.cells hca 0 h0 _ rfl).1

set_option maxRecDepth 20000 in
set_option maxHeartbeats 4000000 in
theorem implSameTerms_ok (a : Option Addr) (n ca : Nat) (fa : List T4) (x : Int) (b : Option Addr) (nb cb : Nat) (fb : List T4) (y : Int) (w : World) (ha : RdTerm w a fa) (hn : fa.length = n) (hx : n ≤ maxLen) (hok : ∀ t ∈ fa, okT t) (hb : RdTerm w b fb) (hnb : fb.length = nb) (hxb : nb ≤ maxLen) (hokb : ∀ t ∈ fb, okT t) :
    Calls Tryz.prog 11 #[.slice a n ca, .int .i64 x, .slice b nb cb, .int .i64 y] w fun e w' => e = .returned (.bool (smT fa x fb y)) ∧ Below w.heap.size w w' := by
  have CA := Hid.mk (fun w h => placeFault_ok a n ca fa x w h hn hx hok)
  have CB := Hid.mk (fun w h => placeFault_ok b nb cb fb y w h hnb hxb hokb)
  rcases smT_ways fa x fb y with ⟨h1, hr⟩ | ⟨h1, h2, hr⟩ | ⟨h1, h2, hr⟩
  · rw [hr]
    have h3 : (akC fa x != 0) = true := by simp [h1]
    clear hr h1
    generalize akC fa x = kk at *
    go_enter Tryz.func11, Tryz.ntmps11
    have B := Below.refl w.heap.size w
    have Bo := B
    go_wp2_with fail
    refine (CA.out _ ha).mono ?_
    rintro e w1 ⟨rfl, b1⟩
    have S1 := b1.size
    replace ha := ha.kept b1
    replace hb := hb.kept b1
    replace B := thenB B b1
    clear b1
    have Bo := B
    go_wp2
    go_ret
    exact ⟨rfl, Bo⟩
  · rw [hr]
    have h3 : (akC fb y != 0) = true := by simp [h2]
    rw [h1] at CA
    clear hr h1 h2
    generalize akC fb y = kk at *
    go_enter Tryz.func11, Tryz.ntmps11
    have B := Below.refl w.heap.size w
    have Bo := B
    go_wp2_with fail
    refine (CA.out _ ha).mono ?_
    rintro e w11 ⟨rfl, b11⟩
    have S11 := b11.size
    replace ha := ha.kept b11
    replace hb := hb.kept b11
    replace B := thenB B b11
    clear b11
    have Bo := B
    go_wp2_with fail
    refine (CB.out _ hb).mono ?_
    rintro e w12 ⟨rfl, b12⟩
    have S12 := b12.size
    replace ha := ha.kept b12
    replace hb := hb.kept b12
    replace B := thenB B b12
    clear b12
    have Bo := B
    go_wp2
    go_ret
    exact ⟨rfl, Bo⟩
  · rw [hr]
    rw [h1] at CA
    rw [h2] at CB
    obtain ⟨hv, hq0, hq1⟩ := ak_zero h1
    obtain ⟨hv2, hq2, hq3⟩ := ak_zero h2
    obtain ⟨m, rfl⟩ : ∃ m : Nat, x = (m : Int) := ⟨x.toNat, by omega⟩
    obtain ⟨k, rfl⟩ : ∃ m : Nat, y = (m : Int) := ⟨y.toNat, by omega⟩
    rw [Int.toNat_natCast, Int.toNat_natCast]
    have hmn : m < n := by omega
    have hkn : k < nb := by omega
    have hm1 : (m : Int) < (n : Int) := by omega
    have hk1 : (k : Int) < (nb : Int) := by omega
    have I1 := nb_ok hv Nice.nil n (by omega)
    have hsame := nb_same hv (show m < fa.length by omega) hv2 (show k < fb.length by omega)
    rw [hn, hnb] at hsame
    have hn4 : n ≤ 400 := by have := (tfC_zero hv).1; omega
    have N1 := Hid.mk (fun g w h hg hag hlow => numberTerms_ok a n ca fa [] g 0 w h hn hv hok Nice.nil (Nat.zero_le _) hg rfl hag hlow)
    have hl1 : (nbS fa [] n).tb.length ≤ 400 := by obtain ⟨ys, e1, e2⟩ := I1.pre; rw [e1]; simp; omega
    have N2 := Hid.mk (fun g w h hg hag hlow => numberTerms_ok b nb cb fb (nbS fa [] n).tb g (nbS fa [] n).tb.length w h hnb hv2 hokb I1.nice hl1 hg rfl hag hlow)
    have HLA := Hid.mk (ha.low (by omega))
    have HLB := Hid.mk (hb.low (by omega))
    obtain ⟨v1, hv1⟩ : ∃ v, (nbS fa [] n).pl m = v := ⟨_, rfl⟩
    obtain ⟨v2, hv2'⟩ : ∃ v, (nbS fb (nbS fa [] n).tb nb).pl k = v := ⟨_, rfl⟩
    rw [hv1, hv2'] at hsame
    have hvv : (v1 == v2) = decide (den fa m = den fb k) := by
      by_cases e : v1 = v2
      · rw [decide_eq_true (hsame.1 e)]; simpa using e
      · rw [decide_eq_false (fun e2 => e (hsame.2 e2))]; simpa using e
    unfold Numbered at N1 N2
    generalize decide (den fa m = den fb k) = rr at *
    replace hv1 := Hid.mk hv1
    replace hv2' := Hid.mk hv2'
    clear hr h1 h2 hq0 hq1 hq2 hq3 I1 hsame hl1 hv hv2
    go_enter Tryz.func11, Tryz.ntmps11
    have B := Below.refl w.heap.size w
    have Bo := B
    go_wp2_with fail
    refine (CA.out _ ha).mono ?_
    rintro e w21 ⟨rfl, b21⟩
    have S21 := b21.size
    replace ha := ha.kept b21
    replace hb := hb.kept b21
    replace B := thenB B b21
    clear b21
    have Bo := B
    go_wp2_with fail
    refine (CB.out _ hb).mono ?_
    rintro e w22 ⟨rfl, b22⟩
    have S22 := b22.size
    replace ha := ha.kept b22
    replace hb := hb.kept b22
    replace B := thenB B b22
    clear b22
    have Bo := B
    have hsw := B.size
    have bm := belowA w22 (.map #[] 0)
    replace ha := ha.kept bm
    replace hb := hb.kept bm
    replace B := thenB B bm
    have TM0 : TM (w22.alloc (.map #[] 0)) w22.heap.size (tmM []) 0 := by rw [tmM_nil]; exact TM.new _
    clear bm Bo
    have qmk := makeMap_none
    go_upto_region 4 with fail
    refine wp_region_any (by kernel_rfl) ?_
    change wpAny _ _ _ _ _ _ _ (w22.alloc (.map #[] 0)).drew
    have bd : Below (w22.alloc (.map #[] 0)).heap.size (w22.alloc (.map #[] 0)) (w22.alloc (.map #[] 0)).drew := (Below.refl _ _).drew
    replace ha := ha.kept bd
    replace hb := hb.kept bd
    replace TM0 := TM0.kept bd
    replace B := thenB B bd
    clear bd
    generalize (w22.alloc (.map #[] 0)).drew = wd at *
    obtain ⟨g, hg⟩ : ∃ g, w22.heap.size = g := ⟨_, rfl⟩
    rw [hg] at TM0 hsw ⊢
    have hgl := TM0.lt
    have hgw := Hid.mk hsw
    have HGA : Hid (∀ ad : Addr, a = some ad → ad.block ≠ g) := Hid.mk (fun ad had => by have := HLA.out ad had; omega)
    have HGB : Hid (∀ ad : Addr, b = some ad → ad.block ≠ g) := Hid.mk (fun ad had => by have := HLB.out ad had; omega)
    refine wpAny_take (i := 0) (oi := _) (v := ?vtt1) rfl (by kernel_rfl) (by kernel_rfl) (by kernel_rfl) (fun _ _ _ h => h) (Or.inl ⟨by rfl, ?hytt1⟩) ?resttt1
    case hytt1 => (intro w; go_simp; first | done | with_reducible rfl)
    try simp only [Act.put, List.getElem_toArray, List.getElem_cons_zero, List.setIfInBounds_toArray, List.set_cons_zero, List.set_cons_succ]
    refine wpAny_take (i := 1) (oi := _) (v := ?vtt2) rfl (by kernel_rfl) (by kernel_rfl) (by kernel_rfl) (fun _ _ _ h => h) (Or.inl ⟨by rfl, ?hytt2⟩) ?resttt2
    case hytt2 => (intro w; go_simp; first | done | with_reducible rfl)
    try simp only [Act.put, List.getElem_toArray, List.getElem_cons_zero, List.getElem_cons_succ, List.setIfInBounds_toArray, List.set_cons_zero, List.set_cons_succ]
    refine wpAny_take (i := 3) (oi := _) (v := ?vtt3) rfl (by kernel_rfl) (by kernel_rfl) (by kernel_rfl) (fun _ _ _ h => h) (Or.inl ⟨by rfl, ?hytt3⟩) ?resttt3
    case hytt3 => (intro w; go_simp; first | done | with_reducible rfl)
    try simp only [Act.put, List.getElem_toArray, List.getElem_cons_zero, List.getElem_cons_succ, List.setIfInBounds_toArray, List.set_cons_zero, List.set_cons_succ]
    refine wpAny_take (i := 6) (oi := _) (v := ?vtt4) rfl (by kernel_rfl) (by kernel_rfl) (by kernel_rfl) (fun _ _ _ h => h) (Or.inl ⟨by rfl, ?hytt4⟩) ?resttt4
    case hytt4 => (intro w; go_simp; first | done | with_reducible rfl)
    try simp only [Act.put, List.getElem_toArray, List.getElem_cons_zero, List.getElem_cons_succ, List.setIfInBounds_toArray, List.set_cons_zero, List.set_cons_succ]
    refine wpAny_take (i := 7) (oi := _) (v := ?vtt5) rfl (by kernel_rfl) (by kernel_rfl) (by kernel_rfl) (fun _ _ _ h => h) (Or.inl ⟨by rfl, ?hytt5⟩) ?resttt5
    case hytt5 => (intro w; go_simp; first | done | with_reducible rfl)
    try simp only [Act.put, List.getElem_toArray, List.getElem_cons_zero, List.getElem_cons_succ, List.setIfInBounds_toArray, List.set_cons_zero, List.set_cons_succ]
    refine wpAny_take (i := 9) (oi := _) (v := ?vtt6) rfl (by kernel_rfl) (by kernel_rfl) (by kernel_rfl) (fun _ _ _ h => h) (Or.inl ⟨by rfl, ?hytt6⟩) ?resttt6
    case hytt6 => (intro w; go_simp; first | done | with_reducible rfl)
    try simp only [Act.put, List.getElem_toArray, List.getElem_cons_zero, List.getElem_cons_succ, List.setIfInBounds_toArray, List.set_cons_zero, List.set_cons_succ]
    refine wpAny_ready (rs := [2]) (by kernel_rfl) (by simp) ?_
    refine AllReady.cons (o := _) rfl (fun K0 hK0 => ?_) AllReady.nil
    go_simp
    go_at_call 33
    refine (N1.out g _ ha TM0 HGA (Hid.mk (fun ad had => by have := HLA.out ad had; have := B.size; omega))).mono ?_
    rintro e w3 ⟨c3, d3, rfl, O3, T3, S3⟩
    refine hK0 _ _ ?_
    clear hK0 K0
    try simp only [Act.put, List.getElem_toArray, List.getElem_cons_zero, List.getElem_cons_succ, List.setIfInBounds_toArray, List.set_cons_zero, List.set_cons_succ]
    have hO3 := O3.lt
    replace hb := hb.sm S3 (fun ad had e => HGB.out ad had e)
    replace B := S3.below' B (by omega) (fun k e => by have := hgw.out; omega)
    have hsz3 := S3.size
    clear S3 TM0 ha
    rcases O3.rd with h9 | ⟨b3, o3, rfl, hc3⟩
    · have := tab_len n (nbS fa [] n).pl; rw [h9] at this; simp at this; omega
    have q1 := hc3 m (by rw [tab_len]; exact hmn)
    rw [tab_at _ hmn, hv1.out] at q1
    have hb3 := hO3 _ rfl
    simp only at hb3
    clear hc3 O3 hO3
    refine wpAny_take (i := 4) (oi := _) (v := ?vtt7) rfl (by kernel_rfl) (by kernel_rfl) (by kernel_rfl) (fun _ _ _ h => h) (Or.inl ⟨by rfl, ?hytt7⟩) ?resttt7
    case hytt7 => (intro w; go_simp; first | done | with_reducible rfl)
    try simp only [Act.put, List.getElem_toArray, List.getElem_cons_zero, List.getElem_cons_succ, List.setIfInBounds_toArray, List.set_cons_zero, List.set_cons_succ]
    refine wpAny_ready (rs := [5, 8]) (by kernel_rfl) (by simp) ?_
    refine AllReady.cons (o := _) rfl (fun K0 hK0 => ?_) (AllReady.cons (o := _) rfl (fun K0 hK0 => ?_) AllReady.nil)
    · skip
      go_simp
      refine hK0 _ _ ?_
      clear hK0 K0
      try simp only [Act.put, List.getElem_toArray, List.getElem_cons_zero, List.getElem_cons_succ, List.setIfInBounds_toArray, List.set_cons_zero, List.set_cons_succ]
      refine wpAny_ready (rs := [8]) (by kernel_rfl) (by simp) ?_
      refine AllReady.cons (o := _) rfl (fun K0 hK0 => ?_) AllReady.nil
      go_simp
      go_at_call 33
      refine (N2.out g _ hb T3 HGB (Hid.mk (fun ad had => by have := HLB.out ad had; have := B.size; omega))).mono ?_
      rintro e w4 ⟨c4, d4, rfl, O4, T4', S4⟩
      refine hK0 _ _ ?_
      clear hK0 K0
      try simp only [Act.put, List.getElem_toArray, List.getElem_cons_zero, List.getElem_cons_succ, List.setIfInBounds_toArray, List.set_cons_zero, List.set_cons_succ]
      have q1 := (World.cell?_of_block (a := ⟨b3, o3 + m, none⟩) (S4.block b3 (by omega) (by omega))).trans q1
      replace B := S4.below' B (by omega) (fun k e => by have := hgw.out; omega)
      clear S4 T4' T3 hb
      rcases O4.rd with h9 | ⟨b4, o4, rfl, hc4⟩
      · have := tab_len nb (nbS fb (nbS fa [] n).tb nb).pl; rw [h9] at this; simp at this; omega
      have q2 := hc4 k (by rw [tab_len]; exact hkn)
      rw [tab_at _ hkn, hv2'.out] at q2
      clear hc4 O4
      refine wpAny_take (i := 10) (oi := _) (v := ?vtt8) rfl (by kernel_rfl) (by kernel_rfl) (by kernel_rfl) (fun _ _ _ h => h) (Or.inl ⟨by rfl, ?hytt8⟩) ?resttt8
      case hytt8 => (intro w; go_simp; first | done | with_reducible rfl)
      try simp only [Act.put, List.getElem_toArray, List.getElem_cons_zero, List.getElem_cons_succ, List.setIfInBounds_toArray, List.set_cons_zero, List.set_cons_succ]
      refine wpAny_ready (rs := [11]) (by kernel_rfl) (by simp) ?_
      refine AllReady.cons (o := _) rfl (fun K0 hK0 => ?_) AllReady.nil
      go_simp
      refine hK0 _ _ ?_
      clear hK0 K0
      try simp only [Act.put, List.getElem_toArray, List.getElem_cons_zero, List.getElem_cons_succ, List.setIfInBounds_toArray, List.set_cons_zero, List.set_cons_succ]
      refine wpAny_take (i := 12) (oi := _) (v := ?vtt9) rfl (by kernel_rfl) (by kernel_rfl) (by kernel_rfl) (fun _ _ _ h => h) (Or.inl ⟨by rfl, ?hytt9⟩) ?resttt9
      case hytt9 => (intro w; go_simp; first | done | with_reducible rfl)
      try simp only [Act.put, List.getElem_toArray, List.getElem_cons_zero, List.getElem_cons_succ, List.setIfInBounds_toArray, List.set_cons_zero, List.set_cons_succ]
      refine wpAny_take (i := 13) (oi := _) (v := ?vtt10) rfl (by kernel_rfl) (by kernel_rfl) (by kernel_rfl) (fun _ _ _ h => h) (Or.inl ⟨by rfl, ?hytt10⟩) ?resttt10
      case hytt10 => (intro w; go_simp; first | done | with_reducible rfl)
      try simp only [Act.put, List.getElem_toArray, List.getElem_cons_zero, List.getElem_cons_succ, List.setIfInBounds_toArray, List.set_cons_zero, List.set_cons_succ]
      refine wpAny_done (by kernel_rfl) ?_ _
      go_wp2
      go_ret
      exact ⟨rfl, B⟩
    · skip
      go_simp
      go_at_call 33
      refine (N2.out g _ hb T3 HGB (Hid.mk (fun ad had => by have := HLB.out ad had; have := B.size; omega))).mono ?_
      rintro e w4 ⟨c4, d4, rfl, O4, T4', S4⟩
      refine hK0 _ _ ?_
      clear hK0 K0
      try simp only [Act.put, List.getElem_toArray, List.getElem_cons_zero, List.getElem_cons_succ, List.setIfInBounds_toArray, List.set_cons_zero, List.set_cons_succ]
      have q1 := (World.cell?_of_block (a := ⟨b3, o3 + m, none⟩) (S4.block b3 (by omega) (by omega))).trans q1
      replace B := S4.below' B (by omega) (fun k e => by have := hgw.out; omega)
      clear S4 T4' T3 hb
      rcases O4.rd with h9 | ⟨b4, o4, rfl, hc4⟩
      · have := tab_len nb (nbS fb (nbS fa [] n).tb nb).pl; rw [h9] at this; simp at this; omega
      have q2 := hc4 k (by rw [tab_len]; exact hkn)
      rw [tab_at _ hkn, hv2'.out] at q2
      clear hc4 O4
      refine wpAny_take (i := 10) (oi := _) (v := ?vtt11) rfl (by kernel_rfl) (by kernel_rfl) (by kernel_rfl) (fun _ _ _ h => h) (Or.inl ⟨by rfl, ?hytt11⟩) ?resttt11
      case hytt11 => (intro w; go_simp; first | done | with_reducible rfl)
      try simp only [Act.put, List.getElem_toArray, List.getElem_cons_zero, List.getElem_cons_succ, List.setIfInBounds_toArray, List.set_cons_zero, List.set_cons_succ]
      refine wpAny_ready (rs := [5, 11]) (by kernel_rfl) (by simp) ?_
      refine AllReady.cons (o := _) rfl (fun K0 hK0 => ?_) (AllReady.cons (o := _) rfl (fun K0 hK0 => ?_) AllReady.nil)
      · skip
        go_simp
        refine hK0 _ _ ?_
        clear hK0 K0
        try simp only [Act.put, List.getElem_toArray, List.getElem_cons_zero, List.getElem_cons_succ, List.setIfInBounds_toArray, List.set_cons_zero, List.set_cons_succ]
        refine wpAny_ready (rs := [11]) (by kernel_rfl) (by simp) ?_
        refine AllReady.cons (o := _) rfl (fun K0 hK0 => ?_) AllReady.nil
        go_simp
        refine hK0 _ _ ?_
        clear hK0 K0
        try simp only [Act.put, List.getElem_toArray, List.getElem_cons_zero, List.getElem_cons_succ, List.setIfInBounds_toArray, List.set_cons_zero, List.set_cons_succ]
        refine wpAny_take (i := 12) (oi := _) (v := ?vtt12) rfl (by kernel_rfl) (by kernel_rfl) (by kernel_rfl) (fun _ _ _ h => h) (Or.inl ⟨by rfl, ?hytt12⟩) ?resttt12
        case hytt12 => (intro w; go_simp; first | done | with_reducible rfl)
        try simp only [Act.put, List.getElem_toArray, List.getElem_cons_zero, List.getElem_cons_succ, List.setIfInBounds_toArray, List.set_cons_zero, List.set_cons_succ]
        refine wpAny_take (i := 13) (oi := _) (v := ?vtt13) rfl (by kernel_rfl) (by kernel_rfl) (by kernel_rfl) (fun _ _ _ h => h) (Or.inl ⟨by rfl, ?hytt13⟩) ?resttt13
        case hytt13 => (intro w; go_simp; first | done | with_reducible rfl)
        try simp only [Act.put, List.getElem_toArray, List.getElem_cons_zero, List.getElem_cons_succ, List.setIfInBounds_toArray, List.set_cons_zero, List.set_cons_succ]
        refine wpAny_done (by kernel_rfl) ?_ _
        go_wp2
        go_ret
        exact ⟨rfl, B⟩
      · skip
        go_simp
        refine hK0 _ _ ?_
        clear hK0 K0
        try simp only [Act.put, List.getElem_toArray, List.getElem_cons_zero, List.getElem_cons_succ, List.setIfInBounds_toArray, List.set_cons_zero, List.set_cons_succ]
        refine wpAny_ready (rs := [5]) (by kernel_rfl) (by simp) ?_
        refine AllReady.cons (o := _) rfl (fun K0 hK0 => ?_) AllReady.nil
        go_simp
        refine hK0 _ _ ?_
        clear hK0 K0
        try simp only [Act.put, List.getElem_toArray, List.getElem_cons_zero, List.getElem_cons_succ, List.setIfInBounds_toArray, List.set_cons_zero, List.set_cons_succ]
        refine wpAny_take (i := 12) (oi := _) (v := ?vtt14) rfl (by kernel_rfl) (by kernel_rfl) (by kernel_rfl) (fun _ _ _ h => h) (Or.inl ⟨by rfl, ?hytt14⟩) ?resttt14
        case hytt14 => (intro w; go_simp; first | done | with_reducible rfl)
        try simp only [Act.put, List.getElem_toArray, List.getElem_cons_zero, List.getElem_cons_succ, List.setIfInBounds_toArray, List.set_cons_zero, List.set_cons_succ]
        refine wpAny_take (i := 13) (oi := _) (v := ?vtt15) rfl (by kernel_rfl) (by kernel_rfl) (by kernel_rfl) (fun _ _ _ h => h) (Or.inl ⟨by rfl, ?hytt15⟩) ?resttt15
        case hytt15 => (intro w; go_simp; first | done | with_reducible rfl)
        try simp only [Act.put, List.getElem_toArray, List.getElem_cons_zero, List.getElem_cons_succ, List.setIfInBounds_toArray, List.set_cons_zero, List.set_cons_succ]
        refine wpAny_done (by kernel_rfl) ?_ _
        go_wp2
        go_ret
        exact ⟨rfl, B⟩

end Go.Proofs.YtfldgeokigcokaaGreat
